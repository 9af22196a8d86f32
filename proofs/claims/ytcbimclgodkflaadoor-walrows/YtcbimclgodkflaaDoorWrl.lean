import Derived.Test.YtcbimclgodkflaaDoorWsr
/- The law WalRows. -/
namespace Go.Proofs.YtcbimclgodkflaaDoor
open Go.ChangeShapes Go.WideShapes Go.ChangeAt Go.RowKit Go.Shelf
set_option maxRecDepth 100000
set_option linter.unusedVariables false
attribute [local go_sem] Oper.semAt_some

theorem info_str : (Tryd.prog.info? 9).map (fun i => (i.zero, i.size, i.bytes)) = some (some (.string ⟨#[]⟩), 1, 16) := by kernel_rfl
theorem src_str1 (w : World) (u : Value) (hu : u.oneCell' = true) : Src Tryd.prog 1 38 (.slice (some ⟨w.heap.size, 0, none⟩) 1 1) 1 [u] (w.alloc (.cells #[u] 9)) := by
  refine Src.ofSlice _ Tryd.underlying38 _ _ _ _ rfl (fun j x hj => ?_) (fun x hx => by simp at hx; subst hx; exact hu)
  match j, hj with
  | 0, hj => simp at hj; subst hj; rw [add_none]; simp
  | j + 1, hj => simp at hj
set_option maxHeartbeats 51200000 in
theorem wrows_walk (w : World) (v : Value) (xs : List OpD) (eS eL eB eF : Addr) (hx : Ops w v xs) (heS : w.cell? ⟨5, 0, none⟩ = some (vEr eS)) (heL : w.cell? ⟨3, 0, none⟩ = some (vEr eL)) (heB : w.cell? ⟨6, 0, none⟩ = some (vEr eB)) (heF : w.cell? ⟨4, 0, none⟩ = some (vEr eF)) :
    Calls Tryd.prog 4 #[v] w fun e w' => e = .returned (.bool true) ∧ Below w.heap.size w w' := by
  obtain ⟨xa, xc, rfl, hxs⟩ := hx.at6
  have HXS := mkHid hxs
  have HE := mkHid (And.intro heS (And.intro heL (And.intro heB heF)))
  have n0 : Hid (npc (frm (r6 0 48)).length = 1) := mkHid (one_piece 1 1 0 48 (by omega) (by omega) (by omega))
  have kcv := fun (w : World) (C : Array Value) (n c : Nat) => Lib.run_convert_bytes_const (P := Tryd.prog) w 32 5 C n c Tryd.underlying32 Tryd.underlying5
  obtain ⟨wa, hwa⟩ : ∃ wa, wa = w.alloc (.cells #[.bool false] 4) := ⟨_, rfl⟩
  have hba : Below w.heap.size w wa := by rw [hwa]; exact (Below.refl _ w).alloc (Nat.le_refl _) _
  have ha2 : wa.heap[w.heap.size]? = some (.cells #[.bool false] 4 (0, 0)) := by rw [hwa]; exact heap_alloc_new w _
  have HAL := mkHid (walive wa eS eL eB eF (cell_lat hba heS) (cell_lat hba heL) (cell_lat hba heB) (cell_lat hba heF))
  have HBA := mkHid hba
  have HA2 := mkHid ha2
  clear hx hxs heS heL heB heF hba ha2
  refine (callsIn_wide (n := 5)).1 ?_
  refine callsIn_of_wp_marks Tryd.func4 rfl trivial ?_ rfl
  simp only [Tryd.ntmps4, List.size_toArray, List.length_cons, List.length_nil, Nat.reduceAdd, Nat.reduceSub, Array.replicate_succ, Array.replicate_zero, List.push_toArray, List.append_toArray, List.nil_append, List.cons_append]
  rw [wpIn_wide]
  go_wp2_with (first
    | (go_at_call 6; rw [← hwa]; refine HAL.out.mono ?_; rintro e w1 ⟨rfl, hb1⟩; have HB1 := mkHid hb1; clear hb1 hwa)
    | (go_at_call 7; refine (dnew_ok _ 200 (by omega) (by omega)).mono ?_; rintro e w2 ⟨p, F, rfl, hD2, hF2, hb2⟩; have HD2 := mkHid (And.intro hD2 (And.intro hF2 hb2)); clear hD2 hF2 hb2)
    | (go_at_call 8; refine (format_row (w := w) (n := 200) (s := 99) (HD2.out.1.below ((Below.refl _ w2).alloc (Nat.le_refl _) _)) (HBA.out.trans (HB1.out.mono HBA.out.size) |>.trans ((HD2.out.2.2.trans (((Below.refl _ w2).alloc (Nat.le_refl _) _).mono HD2.out.2.2.size)).mono (Nat.le_trans HBA.out.size HB1.out.size))) (fun j hj => Nat.le_trans (Nat.le_trans HBA.out.size HB1.out.size) (HD2.out.2.1 j hj)) (by omega) (by omega) (by omega) _ 1 [48] (rd_byte w2 48 _ (by omega)) (by simp) (by show npc (frm (r6 0 48)).length ≤ 99; have := n0.out; omega) eS eL eB eF HE.out.1 HE.out.2.1 HE.out.2.2.1 HE.out.2.2.2).mono ?_; rintro e w3 ⟨l, F3, FR3, nx3, f3, nw3, v3, t3, rfl, hL3, hd3, hk3, hF3, hR3, hl3⟩; have HL3 := mkHid hL3; have HM3 := mkHid (And.intro hd3 (And.intro hk3 (And.intro hF3 (And.intro hR3 hl3)))); clear hL3 hd3 hk3 hF3 hR3 hl3))
  refine wp_loop_k (fun a' w' => ∃ (u1 u4 u5 u7 u8 u9 u10 u11 u12 u13 u14 u15 u16 u17 u18 u19 u20 u21 u22 u23 u24 u25 u26 u27 u28 u29 u30 u31 u32 u33 u34 u35 u36 u37 u38 u39 u40 u41 u42 u45 u46 u47 u48 u49 u50 u51 u52 u53 u54 u55 u56 u57 u58 u59 u60 u61 u62 u63 u64 u65 u66 u67 u68 u69 u70 u71 u72 u73 u74 u75 u76 u77 u78 u79 u80 u81 u82 u83 u84 u85 u86 u87 u88 u89 u90 u91 u92 u93 u94 u95 u96 u97 u98 u99 u100 u101 u102 u103 u104 u105 u106 u107 u108 u109 u110 u111 u112 u113 u114 u115 u116 u117 u118 u119 u120 u121 u122 u123 u124 u125 u126 u127 u128 u129 u130 u131 u132 u133 u134 u135 u136 u137 u138 u139 u140 u141 u142 u143 u144 u145 u146 u147 u148 : Value) (ds : List Deferred), LR w p (w3.heap.size + 1) xs.length u5 u45 ds w' ∧ a' = ⟨#[.slice xa xs.length xc, u1, .pointer (some ⟨w.heap.size, 0, none⟩), .pointer (some ⟨p, 0, none⟩), u4, u5, .pointer (some ⟨w3.heap.size + 1, 0, none⟩), u7, u8, u9, u10, u11, u12, u13, u14, u15, u16, u17, u18, u19, u20, u21, u22, u23, u24, u25, u26, u27, u28, u29, u30, u31, u32, u33, u34, u35, u36, u37, u38, u39, u40, u41, u42, .slice xa xs.length xc, .int .i64 (xs.length : Int), u45, u46, u47, u48, u49, u50, u51, u52, u53, u54, u55, u56, u57, u58, u59, u60, u61, u62, u63, u64, u65, u66, u67, u68, u69, u70, u71, u72, u73, u74, u75, u76, u77, u78, u79, u80, u81, u82, u83, u84, u85, u86, u87, u88, u89, u90, u91, u92, u93, u94, u95, u96, u97, u98, u99, u100, u101, u102, u103, u104, u105, u106, u107, u108, u109, u110, u111, u112, u113, u114, u115, u116, u117, u118, u119, u120, u121, u122, u123, u124, u125, u126, u127, u128, u129, u130, u131, u132, u133, u134, u135, u136, u137, u138, u139, u140, u141, u142, u143, u144, u145, u146, u147, u148], ds⟩) (fun a' _ => xs.length - (intOf (a'.tmps.getD 45 undef)).toNat) ?_ ?_
  · (repeat apply Exists.intro)
    refine ⟨?_, rfl⟩
    have q2 : w2.heap[w.heap.size]? = some (.cells #[.bool false] 4 (0, 0)) := by
      have h1 := (HB1.out.block _ (lt_of_heap HA2.out)).trans HA2.out
      exact (HD2.out.2.2.block _ (lt_of_heap h1)).trans h1
    have l2 := lt_of_heap q2
    have nF : ¬ F w.heap.size := fun h => by
      have h1 := HD2.out.2.1 _ h
      have h2 := HB1.out.size
      have h3 := lt_of_heap HA2.out
      omega
    have q3 : w3.heap[w.heap.size]? = some (.cells #[.bool false] 4 (0, 0)) := (HM3.out.2.1.block _ (by simp; omega) nF).trans ((heap_alloc_old _ _ l2).trans q2)
    refine rows_start HL3.out HM3.out.1 q3 (fun h => ?_)
    have sz : (w2.alloc (Obj.cells #[Value.int IntKind.u8 48] 5 (1, 2))).heap.size = w2.heap.size + 1 := by simp
    rcases h with a | a | a | a
    · omega
    · rcases HM3.out.2.2.1 _ a with b | b
      · exact nF b
      · omega
    · have := HM3.out.2.2.2.1 _ a; omega
    · have := HM3.out.2.2.2.2; omega
  · intro a0 wr hinv
    obtain ⟨u1, hinv⟩ := hinv
    obtain ⟨u4, hinv⟩ := hinv
    obtain ⟨u5, hinv⟩ := hinv
    obtain ⟨u7, hinv⟩ := hinv
    obtain ⟨u8, hinv⟩ := hinv
    obtain ⟨u9, hinv⟩ := hinv
    obtain ⟨u10, hinv⟩ := hinv
    obtain ⟨u11, hinv⟩ := hinv
    obtain ⟨u12, hinv⟩ := hinv
    obtain ⟨u13, hinv⟩ := hinv
    obtain ⟨u14, hinv⟩ := hinv
    obtain ⟨u15, hinv⟩ := hinv
    obtain ⟨u16, hinv⟩ := hinv
    obtain ⟨u17, hinv⟩ := hinv
    obtain ⟨u18, hinv⟩ := hinv
    obtain ⟨u19, hinv⟩ := hinv
    obtain ⟨u20, hinv⟩ := hinv
    obtain ⟨u21, hinv⟩ := hinv
    obtain ⟨u22, hinv⟩ := hinv
    obtain ⟨u23, hinv⟩ := hinv
    obtain ⟨u24, hinv⟩ := hinv
    obtain ⟨u25, hinv⟩ := hinv
    obtain ⟨u26, hinv⟩ := hinv
    obtain ⟨u27, hinv⟩ := hinv
    obtain ⟨u28, hinv⟩ := hinv
    obtain ⟨u29, hinv⟩ := hinv
    obtain ⟨u30, hinv⟩ := hinv
    obtain ⟨u31, hinv⟩ := hinv
    obtain ⟨u32, hinv⟩ := hinv
    obtain ⟨u33, hinv⟩ := hinv
    obtain ⟨u34, hinv⟩ := hinv
    obtain ⟨u35, hinv⟩ := hinv
    obtain ⟨u36, hinv⟩ := hinv
    obtain ⟨u37, hinv⟩ := hinv
    obtain ⟨u38, hinv⟩ := hinv
    obtain ⟨u39, hinv⟩ := hinv
    obtain ⟨u40, hinv⟩ := hinv
    obtain ⟨u41, hinv⟩ := hinv
    obtain ⟨u42, hinv⟩ := hinv
    obtain ⟨u45, hinv⟩ := hinv
    obtain ⟨u46, hinv⟩ := hinv
    obtain ⟨u47, hinv⟩ := hinv
    obtain ⟨u48, hinv⟩ := hinv
    obtain ⟨u49, hinv⟩ := hinv
    obtain ⟨u50, hinv⟩ := hinv
    obtain ⟨u51, hinv⟩ := hinv
    obtain ⟨u52, hinv⟩ := hinv
    obtain ⟨u53, hinv⟩ := hinv
    obtain ⟨u54, hinv⟩ := hinv
    obtain ⟨u55, hinv⟩ := hinv
    obtain ⟨u56, hinv⟩ := hinv
    obtain ⟨u57, hinv⟩ := hinv
    obtain ⟨u58, hinv⟩ := hinv
    obtain ⟨u59, hinv⟩ := hinv
    obtain ⟨u60, hinv⟩ := hinv
    obtain ⟨u61, hinv⟩ := hinv
    obtain ⟨u62, hinv⟩ := hinv
    obtain ⟨u63, hinv⟩ := hinv
    obtain ⟨u64, hinv⟩ := hinv
    obtain ⟨u65, hinv⟩ := hinv
    obtain ⟨u66, hinv⟩ := hinv
    obtain ⟨u67, hinv⟩ := hinv
    obtain ⟨u68, hinv⟩ := hinv
    obtain ⟨u69, hinv⟩ := hinv
    obtain ⟨u70, hinv⟩ := hinv
    obtain ⟨u71, hinv⟩ := hinv
    obtain ⟨u72, hinv⟩ := hinv
    obtain ⟨u73, hinv⟩ := hinv
    obtain ⟨u74, hinv⟩ := hinv
    obtain ⟨u75, hinv⟩ := hinv
    obtain ⟨u76, hinv⟩ := hinv
    obtain ⟨u77, hinv⟩ := hinv
    obtain ⟨u78, hinv⟩ := hinv
    obtain ⟨u79, hinv⟩ := hinv
    obtain ⟨u80, hinv⟩ := hinv
    obtain ⟨u81, hinv⟩ := hinv
    obtain ⟨u82, hinv⟩ := hinv
    obtain ⟨u83, hinv⟩ := hinv
    obtain ⟨u84, hinv⟩ := hinv
    obtain ⟨u85, hinv⟩ := hinv
    obtain ⟨u86, hinv⟩ := hinv
    obtain ⟨u87, hinv⟩ := hinv
    obtain ⟨u88, hinv⟩ := hinv
    obtain ⟨u89, hinv⟩ := hinv
    obtain ⟨u90, hinv⟩ := hinv
    obtain ⟨u91, hinv⟩ := hinv
    obtain ⟨u92, hinv⟩ := hinv
    obtain ⟨u93, hinv⟩ := hinv
    obtain ⟨u94, hinv⟩ := hinv
    obtain ⟨u95, hinv⟩ := hinv
    obtain ⟨u96, hinv⟩ := hinv
    obtain ⟨u97, hinv⟩ := hinv
    obtain ⟨u98, hinv⟩ := hinv
    obtain ⟨u99, hinv⟩ := hinv
    obtain ⟨u100, hinv⟩ := hinv
    obtain ⟨u101, hinv⟩ := hinv
    obtain ⟨u102, hinv⟩ := hinv
    obtain ⟨u103, hinv⟩ := hinv
    obtain ⟨u104, hinv⟩ := hinv
    obtain ⟨u105, hinv⟩ := hinv
    obtain ⟨u106, hinv⟩ := hinv
    obtain ⟨u107, hinv⟩ := hinv
    obtain ⟨u108, hinv⟩ := hinv
    obtain ⟨u109, hinv⟩ := hinv
    obtain ⟨u110, hinv⟩ := hinv
    obtain ⟨u111, hinv⟩ := hinv
    obtain ⟨u112, hinv⟩ := hinv
    obtain ⟨u113, hinv⟩ := hinv
    obtain ⟨u114, hinv⟩ := hinv
    obtain ⟨u115, hinv⟩ := hinv
    obtain ⟨u116, hinv⟩ := hinv
    obtain ⟨u117, hinv⟩ := hinv
    obtain ⟨u118, hinv⟩ := hinv
    obtain ⟨u119, hinv⟩ := hinv
    obtain ⟨u120, hinv⟩ := hinv
    obtain ⟨u121, hinv⟩ := hinv
    obtain ⟨u122, hinv⟩ := hinv
    obtain ⟨u123, hinv⟩ := hinv
    obtain ⟨u124, hinv⟩ := hinv
    obtain ⟨u125, hinv⟩ := hinv
    obtain ⟨u126, hinv⟩ := hinv
    obtain ⟨u127, hinv⟩ := hinv
    obtain ⟨u128, hinv⟩ := hinv
    obtain ⟨u129, hinv⟩ := hinv
    obtain ⟨u130, hinv⟩ := hinv
    obtain ⟨u131, hinv⟩ := hinv
    obtain ⟨u132, hinv⟩ := hinv
    obtain ⟨u133, hinv⟩ := hinv
    obtain ⟨u134, hinv⟩ := hinv
    obtain ⟨u135, hinv⟩ := hinv
    obtain ⟨u136, hinv⟩ := hinv
    obtain ⟨u137, hinv⟩ := hinv
    obtain ⟨u138, hinv⟩ := hinv
    obtain ⟨u139, hinv⟩ := hinv
    obtain ⟨u140, hinv⟩ := hinv
    obtain ⟨u141, hinv⟩ := hinv
    obtain ⟨u142, hinv⟩ := hinv
    obtain ⟨u143, hinv⟩ := hinv
    obtain ⟨u144, hinv⟩ := hinv
    obtain ⟨u145, hinv⟩ := hinv
    obtain ⟨u146, hinv⟩ := hinv
    obtain ⟨u147, hinv⟩ := hinv
    obtain ⟨u148, hinv⟩ := hinv
    obtain ⟨ds, hinv⟩ := hinv
    obtain ⟨hrel, ha⟩ := hinv
    subst ha
    intro KK HKK
    obtain ⟨j, l1, E, G, I, F1, FR1, fr, nx, f, c, nw, vv, ts, rv, rfl, hj, hj2, rfl, hE, hG, hI, HL⟩ := hrel
    clear HL3 HM3 HD2 HB1 HAL
    have b2c := cell_of_block (i := 0) HL.out.om.b2 rfl
    have b2f := frozen_of_block (i := 0) HL.out.om.b2
    have lb2 := lt_of_heap HL.out.om.b2
    obtain ⟨ra, rc, hrv⟩ := own_shape HL.out.om.own
    rw [List.length_map] at hrv
    subst hrv
    obtain ⟨gv, vc, rfl, hvc, _⟩ := HL.out.rs.ls.rc.at HL.out.rs.ls.tp
    by_cases hlt : j < xs.length
    · obtain ⟨b, off, rfl, hcs⟩ := HXS.out (by omega)
      obtain ⟨x, hxj⟩ : ∃ x, xs[j]? = some x := ⟨xs[j], List.getElem?_eq_getElem hlt⟩
      obtain ⟨c0, c1, c2, c3, hr⟩ := hcs j x hxj
      obtain ⟨ba, bc, hbv⟩ : ∃ ba bc, x.v = .slice ba x.bs.length bc := hr.2.imp fun a h => h.imp fun c h => h.1
      rw [hbv] at c3 hr
      have bl := HL.out.rs.ls.bl
      have d0 := cell_lat bl c0
      have d1 := cell_lat bl c1
      have d2 := cell_lat bl c2
      have d3 := cell_lat bl c3
      obtain ⟨kd, nn, kp, xv, bs⟩ := x
      simp only at d0 d1 d2 d3 hr
      have HRW := mkHid hr
      clear c0 c1 c2 c3 hr hbv hcs bl hxj
      have hji : (j : Int) < xs.length := by omega
      by_cases h100 : 100 < j
      · have h100i : (100 : Int) < j := by omega
        go_wp2
        refine rows_leave HL.out.om HL.out.rs.ls.bl (fun _ h => .inl h) ((set_true wr w.heap.size).trans (Kept.alloc (fun k => k = w.heap.size) _ _) (fun _ h => .inl h)) ?_ ?_
        · rw [heap_alloc_old _ _ (by have := (set_true wr w.heap.size).size; omega)]; exact heap_set1 HL.out.om.b2
        · rfl
      · have h100i : ¬ (100 : Int) < j := by omega
        have hk : kd = 3 ∨ (¬ kd = 3 ∧ kd = 5) ∨ (¬ kd = 3 ∧ ¬ kd = 5 ∧ kd = 2) ∨ (¬ kd = 3 ∧ ¬ kd = 5 ∧ ¬ kd = 2) := by omega
        clear b2c b2f lb2
        rcases hk with rfl | ⟨_, rfl⟩ | ⟨_, _, rfl⟩ | ⟨k1, k2, k3⟩
        · skip
          have HO : Hid (ST w (wr.alloc (Obj.cells #[Value.int IntKind.i64 3, Value.int IntKind.i64 nn, Value.int IntKind.u64 kp, Value.slice ba bs.length bc] 41)) l1 p (w3.heap.size + 1) E G I (1 + j) F1 FR1 fr nx f c nw (.slice (some ⟨gv, 0, none⟩) ts.length vc) ts (.slice ra ts.length rc) ds) := mkHid (HL.out.below ((Below.refl _ wr).alloc (Nat.le_refl _) _))
          have HNZ : Hid (¬ Zs w F1 FR1 l1 wr.heap.size) := mkHid (fun hz => by have := HL.out.rs.zlt _ hz; omega)
          obtain ⟨L1, hL1⟩ : ∃ L1 : Int, L1 = 63 * (((fr + 99 : Nat) : Int) - (nx : Int)) := ⟨_, rfl⟩
          have HL1 := mkHid hL1
          clear hL1
          obtain ⟨ie, hie⟩ : ∃ ie, Hid (Tryd.prog.info? 9 = some ie ∧ ie.zero = some (.string ⟨#[]⟩) ∧ ie.size = 1 ∧ ie.bytes = 16) := by
            obtain ⟨ie, h1, h2, h3, h4⟩ := info_parts info_str
            exact ⟨ie, mkHid ⟨h1, h2, h3, h4⟩⟩
          have hts : (ts.length : Int) ≤ 100000 := by have := HL.out.rs.ls.tl; omega
          have M1 : Hid True := mkHid trivial
          go_wp2_with (first
            | (go_at_call 22; clear M1; refine (left_st HO.out L1 HL1).mono ?_; rintro e w4 ⟨rfl, b4⟩; have HO4 := mkHid (HO.out.below b4); have HR4 := mkHid ((b4.block wr.heap.size (by simp)).trans (heap_alloc_new wr _)); have o3 := cell_of_block (i := 3) HR4.out rfl; clear b4)
            | (go_at_call 12; refine (append_st HO4.out (by omega) (by omega) ba bc bs HRW.out eL eF HE.out.2.1 HE.out.2.2.2).mono ?_; intro e w5 hq; rcases hq with ⟨rfl, hq⟩ | ⟨⟨a5, rfl⟩, hq⟩ <;> (first | (obtain ⟨F5, FR5, nx5, c5, nw5, v5, t5, hr5, ho5, hd5, hx5, hk5⟩ := hq; obtain ⟨tA, htA⟩ : ∃ tA, tA = ts ++ [t5] := ⟨_, rfl⟩; rw [← htA] at hr5; obtain ⟨gA, vA, rfl, hvA, _⟩ := hr5.ls.rc.at hr5.ls.tp; have HT5 : Hid (tA.map (·.1.data) = ts.map (·.1.data) ++ [bs]) := mkHid (by rw [htA]; simp [hd5]); have HOB := mkHid ((hk5.block wr.heap.size (lt_of_heap HR4.out) HNZ.out).trans HR4.out); have o5 := cell_of_block (i := 3) HOB.out rfl; have b65 := cell_of_block (i := 0) ho5.b6 rfl; have b65f := frozen_of_block (i := 0) ho5.b6; have cv5 := (HRW.out.later hr5.ls.bl).conv; obtain ⟨L2, hL2⟩ : ∃ L2 : Int, L2 = 63 * (((fr + 99 : Nat) : Int) - (nx5 : Int)) := ⟨_, rfl⟩; have HL2 := mkHid hL2; have hlt2 : ¬ L1 ≤ L2 := (by have := HL1.out; omega); have hld2 : decide (L1 ≤ L2) = false := (by simp; omega); have HR5 := mkHid hr5; have HM5 := mkHid ho5; clear hr5 ho5 hd5 hx5 hk5 htA hL2 o3) | (obtain ⟨hs5, hk5⟩ := hq; have HS5 := mkHid hs5; clear hs5 hk5 o3)))
            | (at_builtin; refine wpList_append_srcV _ rfl (.tmp 63) (.tmp 67) 38 38 rfl 0 9 ie Tryd.underlying38 hie.out.1 (.string ⟨#[]⟩) 16 hie.out.2.1 rfl hie.out.2.2.1 hie.out.2.2.2 (.slice ra ts.length rc) ts.length ((ts.map (·.1.data)).map sv) rfl (own_keptV (by have := HM5.out.own; rw [List.length_map] at this; exact this) (kept_below (fun _ => False) ((Below.refl _ w5).alloc (Nat.le_refl _) _)) (fun _ _ => id)) (.slice (some ⟨w5.heap.size, 0, none⟩) 1 1) 1 [.string (strOfNums bs)] rfl (src_str1 w5 _ rfl) (by unfold maxLen; omega) (by omega) (Nat.zero_le _) ?_; intro v6 w6 ho6 hg6 hat6; have hk6 : Kept (fun k => (Value.slice ra ts.length rc).ownBlock = some k) w5 w6 := (Kept.alloc _ w5 _).trans (Kept.grown hg6 (fun k hk => hk)) (fun _ h => .inl h); have ho7 : w6.ownsRow 0 9 1 v6 (tA.map (·.1.data)).length ((tA.map (·.1.data)).map sv) := (by rw [HT5.out]; simpa [sv] using ho6); have HS6 := mkHid (push_st HR5.out HM5.out ho7 hk6 (hat6.imp id (fun e => ⟨_, e, by simp⟩)) rfl); have b66 := hk6.cell (cell_of_block (i := 0) HM5.out.b6 rfl) HM5.out.r6; have b66f := frozen_of_block (i := 0) ((hk6.block _ (lt_of_heap HM5.out.b6) HM5.out.r6).trans HM5.out.b6); obtain ⟨pa, pc, rfl⟩ := own_shape ho6; clear ho6 ho7 hg6 hat6 hk6 b65 b65f o5 cv5)
            | (go_at_call 22; first | (refine (left_st HS6.out L2 HL2).mono ?_; rintro e w8 ⟨rfl, b8⟩; have HS8 := mkHid (HS6.out.below b8); clear b8 HS6) | (refine (left_st HS5.out L1 HL1).mono ?_; rintro e w8 ⟨rfl, b8⟩; have HS8 := mkHid (HS5.out.below b8); clear b8 HS5))
            | (go_at_call 23; first | (refine (records_is _ l1 p fr (fr + 99) nx5 E (some ⟨gA, 0, none⟩) tA.length vA ((HS8.out.below ((Below.refl _ _).alloc (Nat.le_refl _) _)).rs.ls.lg) hvA).mono ?_; rintro e w7 ⟨rfl, hw7⟩; rw [hw7]; clear hw7) | (refine (records_is _ l1 p fr (fr + 99) nx E (some ⟨gv, 0, none⟩) ts.length vc ((HS8.out.below ((Below.refl _ _).alloc (Nat.le_refl _) _)).rs.ls.lg) hvc).mono ?_; rintro e w7 ⟨rfl, hw7⟩; rw [hw7]; clear hw7)))
          · skip
            obtain ⟨nb, hnb⟩ : ∃ nb, nb = w8.heap.size := ⟨_, rfl⟩
            obtain ⟨W9, hW9⟩ : ∃ W9, W9 = (((w8).alloc (Obj.cells #[Value.int IntKind.i64 0] 3)).alloc (Obj.cells #[Value.slice (some ⟨gA, 0, none⟩) tA.length tA.length] 67)) := ⟨_, rfl⟩
            have HH := mkHid (rows_mid HS8.out gA tA.length nb hW9 (hnb.trans (by simp)))
            rw [← hW9, ← hnb]
            clear hW9 hnb
            clear d0 d1 d2 d3
            rw [← wpIn_wide (n := 5)]
            refine range_sq2 (n := 5) (m := 3) (by omega) (gf := 48) (lb := #[.pointer (some ⟨nb + 1, 0, none⟩)]) rfl (enters_of Tryd.func48 (by kernel_rfl) rfl)
              (recs1_in 4 (by omega) FR5 (fun k => k = nb ∨ W9.heap.size ≤ k) W9 (nb + 1) gA vA tA (cell_of_block (i := 0) HH.out.2.ks rfl) HH.out.1.rs.ls.rc (by have := HH.out.2.sz; omega) (fun k hk => by have := HH.out.2.fr k hk; have := HH.out.2.sz; omega) HH.out.1.rs.ls.tp (by have := HH.out.1.rs.ls.tl; omega))
              (fun k hk => .inr hk) (fun i vs W h => by obtain ⟨_, _, _, rfl, _⟩ := h; rfl) (EncR.calm tA _)
              (fun i W => W.heap[nb]? = some (.cells #[.int .i64 (i : Int)] 3 (0, 0)) ∧ Kept (fun k => k = nb ∨ W9.heap.size ≤ k) W9 W)
              ?calm ?fresh ?start ?round ?done
            case calm =>
              rintro i W l' o o' ⟨h1, h2⟩ hl' ho hc
              exact ⟨(World.putObj_heap_other (by have := HH.out.2.sz; omega)).trans h1, h2.trans (Kept.grown (grownBy_putObj' W l' o') (fun k e => by cases e; exact .inr hl')) (fun _ h => .inl h)⟩
            case fresh =>
              rintro i W1 W2 ⟨h1, h2⟩ hb
              exact ⟨(hb.block _ (lt_of_heap h1)).trans h1, h2.trans (kept_below (fun k => k = nb ∨ W9.heap.size ≤ k) hb) (fun _ h => .inl h)⟩
            case start =>
              intro W hb
              exact ⟨(hb.block _ (lt_of_heap HH.out.2.kn)).trans HH.out.2.kn, (kept_of_below hb).mono (fun _ h => .inr h)⟩
            case round =>
              rintro l' i vs W hi ⟨t, a, ht, rfl, hrd⟩
              gi_wp2
              clear hrd
              first
                | (refine ⟨trivial, ?_⟩; rintro W2 ⟨hn2, _⟩ hk2 ⟨t', a', ht', he, hrd⟩)
                | (rintro W2 hn2 hk2 ⟨t', a', ht', he, hrd⟩)
              rw [ht] at ht'
              cases ht'
              have ea : a = a' := by simpa using he
              subst ea
              have hix : t.1.index = i := HH.out.1.rs.ri.go.index i t.1 (by rw [List.getElem?_map, ht]; rfl)
              rw [hix]
              have cn := cell_of_block (i := 0) hn2 rfl
              have fn2 := frozen_of_block (i := 0) hn2
              obtain ⟨ra9, rc9, hrv9⟩ := own_shape HH.out.1.om.own
              have c6 : W2.cell? ⟨w3.heap.size + 1, 0, none⟩ = some (.slice ra9 (tA.map (·.1.data)).length rc9) := by
                rw [← hrv9]
                exact hk2.cell (cell_of_block (i := 0) HH.out.1.om.b6 rfl) (by show ¬ (w3.heap.size + 1 = nb ∨ W9.heap.size ≤ w3.heap.size + 1); have := HH.out.2.b6; have := HH.out.2.sz; omega)
              obtain ⟨rg, hra9, cr⟩ : ∃ rg, ra9 = some ⟨rg, 0, none⟩ ∧ W2.cell? ⟨rg, i, none⟩ = some (sv t.1.data) := by
                have ho := HH.out.1.om.own
                have hlt9 := HH.out.2.rv
                rw [hrv9] at ho hlt9
                rcases ho.2 with ⟨e, h0⟩ | ⟨rg, cap, cur, e, _⟩
                · rw [List.length_map] at h0; omega
                · injection e with e1 e2 e3
                  subst e1
                  refine ⟨rg, rfl, ?_⟩
                  have h1 := ho.cells (g := rg) rfl i (sv t.1.data) (by simp [ht])
                  rw [add_none, Nat.zero_add] at h1
                  have h2 := hlt9 rg rfl
                  exact hk2.cell h1 (by show ¬ (rg = nb ∨ W9.heap.size ≤ rg); have := HH.out.2.sz; omega)
              subst hra9
              clear hrv9
              rw [List.length_map] at c6
              have hnle : ¬ (tA.length : Int) ≤ (i : Int) := by omega
              have hnl2 : ¬ tA.length ≤ i := by omega
              have hdb1 : decide ((tA.length : Int) ≤ (i : Int)) = false := by simp; omega
              have hdb2 : decide (tA.length ≤ i) = false := by simp; omega
              have cvs := hrd.convs
              have hii : (i : Int) < tA.length := by omega
              have hti : (tA.length : Int) ≤ 100000 := by have := HH.out.1.rs.ls.tl; omega
              have HK2 := mkHid (And.intro hn2 hk2)
              clear hn2 hk2 hrd he
              unfold sv at cr
              gi_wp2
              refine wpIn_region_quiet_round (F := Fence.wide) rfl (by kernel_rfl) (by kernel_rfl) (by kernel_rfl) ?_
              repeat (gi_big_quiet_step (fail))
              refine wpQuietIn_nil ?_
              intro _ hw'
              obtain ⟨nq, hw''⟩ := hw'
              subst hw''
              gi_wp2
              have kT : Kept (fun k => k = nb) W2 ((W2.drewN nq).setCell ⟨nb, 0, none⟩ (Value.int IntKind.i64 ((i : Int) + 1))) := (drewN_kept _ W2 nq).trans (Kept.setCell (F := fun k => k = nb) _ (p := ⟨nb, 0, none⟩) rfl _) (fun _ h => .inl h)
              have kS : Kept (fun k => k = nb ∨ W9.heap.size ≤ k) W2 ((W2.drewN nq).setCell ⟨nb, 0, none⟩ (Value.int IntKind.i64 ((i : Int) + 1))) := kT.mono (fun _ h => .inl h)
              refine ⟨?_, kS, ?_, HK2.out.2.trans kS (fun _ h => .inl h)⟩
              · exact ⟨kT.size, fun k o hk ho _ => (kT.block k (lt_of_heap ho) (by have := HH.out.2.sz; omega)).trans ho⟩
              · exact heap_set1 (show (W2.drewN nq).heap[nb]? = _ from HK2.out.1)
            case done =>
              rintro D W hD ⟨hnW, hkW⟩ hDd
              have cn := cell_of_block (i := 0) hnW rfl
              obtain ⟨ra9, rc9, hrv9⟩ := own_shape HH.out.1.om.own
              have c6 : W.cell? ⟨w3.heap.size + 1, 0, none⟩ = some (.slice ra9 (tA.map (·.1.data)).length rc9) := by
                rw [← hrv9]
                exact hkW.cell (cell_of_block (i := 0) HH.out.1.om.b6 rfl) (by show ¬ (w3.heap.size + 1 = nb ∨ W9.heap.size ≤ w3.heap.size + 1); have := HH.out.2.b6; have := HH.out.2.sz; omega)
              rw [List.length_map] at c6
              clear hrv9
              dsimp only
              go_wp2
              refine HKK.out _ _ ⟨?_, ?_⟩
              · (repeat apply Exists.intro)
                refine ⟨?_, rfl⟩
                exact rows_end HH.out.1 HH.out.2 (by omega) (by omega) (by omega) (by omega) (by omega) (by omega) hkW hD hDd
              · simp [intOf]; omega
          · skip
            obtain ⟨nb, hnb⟩ : ∃ nb, nb = w8.heap.size := ⟨_, rfl⟩
            obtain ⟨W9, hW9⟩ : ∃ W9, W9 = (((w8).alloc (Obj.cells #[Value.int IntKind.i64 0] 3)).alloc (Obj.cells #[Value.slice (some ⟨gv, 0, none⟩) ts.length ts.length] 67)) := ⟨_, rfl⟩
            have HH := mkHid (rows_mid HS8.out gv ts.length nb hW9 (hnb.trans (by simp)))
            rw [← hW9, ← hnb]
            clear hW9 hnb
            clear d0 d1 d2 d3
            rw [← wpIn_wide (n := 5)]
            refine range_sq2 (n := 5) (m := 3) (by omega) (gf := 48) (lb := #[.pointer (some ⟨nb + 1, 0, none⟩)]) rfl (enters_of Tryd.func48 (by kernel_rfl) rfl)
              (recs1_in 4 (by omega) FR1 (fun k => k = nb ∨ W9.heap.size ≤ k) W9 (nb + 1) gv vc ts (cell_of_block (i := 0) HH.out.2.ks rfl) HH.out.1.rs.ls.rc (by have := HH.out.2.sz; omega) (fun k hk => by have := HH.out.2.fr k hk; have := HH.out.2.sz; omega) HH.out.1.rs.ls.tp (by have := HH.out.1.rs.ls.tl; omega))
              (fun k hk => .inr hk) (fun i vs W h => by obtain ⟨_, _, _, rfl, _⟩ := h; rfl) (EncR.calm ts _)
              (fun i W => W.heap[nb]? = some (.cells #[.int .i64 (i : Int)] 3 (0, 0)) ∧ Kept (fun k => k = nb ∨ W9.heap.size ≤ k) W9 W)
              ?calm ?fresh ?start ?round ?done
            case calm =>
              rintro i W l' o o' ⟨h1, h2⟩ hl' ho hc
              exact ⟨(World.putObj_heap_other (by have := HH.out.2.sz; omega)).trans h1, h2.trans (Kept.grown (grownBy_putObj' W l' o') (fun k e => by cases e; exact .inr hl')) (fun _ h => .inl h)⟩
            case fresh =>
              rintro i W1 W2 ⟨h1, h2⟩ hb
              exact ⟨(hb.block _ (lt_of_heap h1)).trans h1, h2.trans (kept_below (fun k => k = nb ∨ W9.heap.size ≤ k) hb) (fun _ h => .inl h)⟩
            case start =>
              intro W hb
              exact ⟨(hb.block _ (lt_of_heap HH.out.2.kn)).trans HH.out.2.kn, (kept_of_below hb).mono (fun _ h => .inr h)⟩
            case round =>
              rintro l' i vs W hi ⟨t, a, ht, rfl, hrd⟩
              gi_wp2
              clear hrd
              first
                | (refine ⟨trivial, ?_⟩; rintro W2 ⟨hn2, _⟩ hk2 ⟨t', a', ht', he, hrd⟩)
                | (rintro W2 hn2 hk2 ⟨t', a', ht', he, hrd⟩)
              rw [ht] at ht'
              cases ht'
              have ea : a = a' := by simpa using he
              subst ea
              have hix : t.1.index = i := HH.out.1.rs.ri.go.index i t.1 (by rw [List.getElem?_map, ht]; rfl)
              rw [hix]
              have cn := cell_of_block (i := 0) hn2 rfl
              have fn2 := frozen_of_block (i := 0) hn2
              obtain ⟨ra9, rc9, hrv9⟩ := own_shape HH.out.1.om.own
              have c6 : W2.cell? ⟨w3.heap.size + 1, 0, none⟩ = some (.slice ra9 (ts.map (·.1.data)).length rc9) := by
                rw [← hrv9]
                exact hk2.cell (cell_of_block (i := 0) HH.out.1.om.b6 rfl) (by show ¬ (w3.heap.size + 1 = nb ∨ W9.heap.size ≤ w3.heap.size + 1); have := HH.out.2.b6; have := HH.out.2.sz; omega)
              obtain ⟨rg, hra9, cr⟩ : ∃ rg, ra9 = some ⟨rg, 0, none⟩ ∧ W2.cell? ⟨rg, i, none⟩ = some (sv t.1.data) := by
                have ho := HH.out.1.om.own
                have hlt9 := HH.out.2.rv
                rw [hrv9] at ho hlt9
                rcases ho.2 with ⟨e, h0⟩ | ⟨rg, cap, cur, e, _⟩
                · rw [List.length_map] at h0; omega
                · injection e with e1 e2 e3
                  subst e1
                  refine ⟨rg, rfl, ?_⟩
                  have h1 := ho.cells (g := rg) rfl i (sv t.1.data) (by simp [ht])
                  rw [add_none, Nat.zero_add] at h1
                  have h2 := hlt9 rg rfl
                  exact hk2.cell h1 (by show ¬ (rg = nb ∨ W9.heap.size ≤ rg); have := HH.out.2.sz; omega)
              subst hra9
              clear hrv9
              rw [List.length_map] at c6
              have hnle : ¬ (ts.length : Int) ≤ (i : Int) := by omega
              have hnl2 : ¬ ts.length ≤ i := by omega
              have hdb1 : decide ((ts.length : Int) ≤ (i : Int)) = false := by simp; omega
              have hdb2 : decide (ts.length ≤ i) = false := by simp; omega
              have cvs := hrd.convs
              have hii : (i : Int) < ts.length := by omega
              have hti : (ts.length : Int) ≤ 100000 := by have := HH.out.1.rs.ls.tl; omega
              have HK2 := mkHid (And.intro hn2 hk2)
              clear hn2 hk2 hrd he
              unfold sv at cr
              gi_wp2
              refine wpIn_region_quiet_round (F := Fence.wide) rfl (by kernel_rfl) (by kernel_rfl) (by kernel_rfl) ?_
              repeat (gi_big_quiet_step (fail))
              refine wpQuietIn_nil ?_
              intro _ hw'
              obtain ⟨nq, hw''⟩ := hw'
              subst hw''
              gi_wp2
              have kT : Kept (fun k => k = nb) W2 ((W2.drewN nq).setCell ⟨nb, 0, none⟩ (Value.int IntKind.i64 ((i : Int) + 1))) := (drewN_kept _ W2 nq).trans (Kept.setCell (F := fun k => k = nb) _ (p := ⟨nb, 0, none⟩) rfl _) (fun _ h => .inl h)
              have kS : Kept (fun k => k = nb ∨ W9.heap.size ≤ k) W2 ((W2.drewN nq).setCell ⟨nb, 0, none⟩ (Value.int IntKind.i64 ((i : Int) + 1))) := kT.mono (fun _ h => .inl h)
              refine ⟨?_, kS, ?_, HK2.out.2.trans kS (fun _ h => .inl h)⟩
              · exact ⟨kT.size, fun k o hk ho _ => (kT.block k (lt_of_heap ho) (by have := HH.out.2.sz; omega)).trans ho⟩
              · exact heap_set1 (show (W2.drewN nq).heap[nb]? = _ from HK2.out.1)
            case done =>
              rintro D W hD ⟨hnW, hkW⟩ hDd
              have cn := cell_of_block (i := 0) hnW rfl
              obtain ⟨ra9, rc9, hrv9⟩ := own_shape HH.out.1.om.own
              have c6 : W.cell? ⟨w3.heap.size + 1, 0, none⟩ = some (.slice ra9 (ts.map (·.1.data)).length rc9) := by
                rw [← hrv9]
                exact hkW.cell (cell_of_block (i := 0) HH.out.1.om.b6 rfl) (by show ¬ (w3.heap.size + 1 = nb ∨ W9.heap.size ≤ w3.heap.size + 1); have := HH.out.2.b6; have := HH.out.2.sz; omega)
              rw [List.length_map] at c6
              clear hrv9
              dsimp only
              go_wp2
              refine HKK.out _ _ ⟨?_, ?_⟩
              · (repeat apply Exists.intro)
                refine ⟨?_, rfl⟩
                exact rows_end HH.out.1 HH.out.2 (by omega) (by omega) (by omega) (by omega) (by omega) (by omega) hkW hD hDd
              · simp [intOf]; omega
        · skip
          have HO : Hid (ST w (wr.alloc (Obj.cells #[Value.int IntKind.i64 5, Value.int IntKind.i64 nn, Value.int IntKind.u64 kp, Value.slice ba bs.length bc] 41)) l1 p (w3.heap.size + 1) E G I (1 + j) F1 FR1 fr nx f c nw (.slice (some ⟨gv, 0, none⟩) ts.length vc) ts (.slice ra ts.length rc) ds) := mkHid (HL.out.below ((Below.refl _ wr).alloc (Nat.le_refl _) _))
          have HNZ : Hid (¬ Zs w F1 FR1 l1 wr.heap.size) := mkHid (fun hz => by have := HL.out.rs.zlt _ hz; omega)
          go_wp2_with (first
            | (go_at_call 16; refine (check_st HO.out (by omega) (by omega) ba bc bs HRW.out eL eF HE.out.2.1 HE.out.2.2.2).mono ?_; intro e w5 hq; rcases hq with ⟨rfl, hq⟩ | ⟨⟨a5, rfl⟩, hq⟩ <;> (first | (obtain ⟨F5, FR5, fr5, nx5, f5, nw5, v5, t5, hr5, ho5, hd5, hk5⟩ := hq; obtain ⟨tA, htA⟩ : ∃ tA, tA = [t5] := ⟨_, rfl⟩; rw [← htA] at hr5; obtain ⟨gA, vA, rfl, hvA, _⟩ := hr5.ls.rc.at hr5.ls.tp; have HT5 : Hid ([bs] = tA.map (·.1.data)) := mkHid (by rw [htA]; simp [hd5]); have HOB := mkHid ((hk5.block wr.heap.size (by simp) HNZ.out).trans (heap_alloc_new wr _)); have o5 := cell_of_block (i := 3) HOB.out rfl; have cv5 := (HRW.out.later hr5.ls.bl).conv; have HS8 := mkHid (push_st hr5 ho5 (rows' := [bs]) (own_one w5 (.string (strOfNums bs))) (Kept.alloc _ w5 _) (.inr ⟨w5.heap.size, rfl, Nat.le_refl _⟩) HT5.out); have hb6 := (heap_alloc_old w5 (.cells #[.string (strOfNums bs)] 9) (lt_of_heap ho5.b6)).trans ho5.b6; have b65 := cell_of_block (i := 0) hb6 rfl; have b65f := frozen_of_block (i := 0) hb6; clear hr5 ho5 hd5 hk5 htA hb6) | (obtain ⟨hs5, hk5⟩ := hq; have HS8 := mkHid hs5; clear hs5 hk5)))
            | (go_at_call 23; first | (refine (records_is _ l1 p fr5 (fr5 + 99) nx5 E (some ⟨gA, 0, none⟩) tA.length vA ((HS8.out.below ((Below.refl _ _).alloc (Nat.le_refl _) _)).rs.ls.lg) hvA).mono ?_; rintro e w7 ⟨rfl, hw7⟩; rw [hw7]; clear hw7) | (refine (records_is _ l1 p fr (fr + 99) nx E (some ⟨gv, 0, none⟩) ts.length vc ((HS8.out.below ((Below.refl _ _).alloc (Nat.le_refl _) _)).rs.ls.lg) hvc).mono ?_; rintro e w7 ⟨rfl, hw7⟩; rw [hw7]; clear hw7)))
          · skip
            obtain ⟨nb, hnb⟩ : ∃ nb, nb = w5.heap.size + 1 := ⟨_, rfl⟩
            obtain ⟨W9, hW9⟩ : ∃ W9, W9 = ((((w5.alloc (Obj.cells #[Value.string (strOfNums bs)] 9)).setCell ⟨w3.heap.size + 1, 0, none⟩ (Value.slice (some ⟨w5.heap.size, 0, none⟩) 1 1)).alloc (Obj.cells #[Value.int IntKind.i64 0] 3)).alloc (Obj.cells #[Value.slice (some ⟨gA, 0, none⟩) tA.length tA.length] 67)) := ⟨_, rfl⟩
            have HH := mkHid (rows_mid HS8.out gA tA.length nb hW9 (hnb.trans (by simp)))
            rw [← hW9, ← hnb]
            clear hW9 hnb
            clear d0 d1 d2 d3
            rw [← wpIn_wide (n := 5)]
            refine range_sq2 (n := 5) (m := 3) (by omega) (gf := 48) (lb := #[.pointer (some ⟨nb + 1, 0, none⟩)]) rfl (enters_of Tryd.func48 (by kernel_rfl) rfl)
              (recs1_in 4 (by omega) FR5 (fun k => k = nb ∨ W9.heap.size ≤ k) W9 (nb + 1) gA vA tA (cell_of_block (i := 0) HH.out.2.ks rfl) HH.out.1.rs.ls.rc (by have := HH.out.2.sz; omega) (fun k hk => by have := HH.out.2.fr k hk; have := HH.out.2.sz; omega) HH.out.1.rs.ls.tp (by have := HH.out.1.rs.ls.tl; omega))
              (fun k hk => .inr hk) (fun i vs W h => by obtain ⟨_, _, _, rfl, _⟩ := h; rfl) (EncR.calm tA _)
              (fun i W => W.heap[nb]? = some (.cells #[.int .i64 (i : Int)] 3 (0, 0)) ∧ Kept (fun k => k = nb ∨ W9.heap.size ≤ k) W9 W)
              ?calm ?fresh ?start ?round ?done
            case calm =>
              rintro i W l' o o' ⟨h1, h2⟩ hl' ho hc
              exact ⟨(World.putObj_heap_other (by have := HH.out.2.sz; omega)).trans h1, h2.trans (Kept.grown (grownBy_putObj' W l' o') (fun k e => by cases e; exact .inr hl')) (fun _ h => .inl h)⟩
            case fresh =>
              rintro i W1 W2 ⟨h1, h2⟩ hb
              exact ⟨(hb.block _ (lt_of_heap h1)).trans h1, h2.trans (kept_below (fun k => k = nb ∨ W9.heap.size ≤ k) hb) (fun _ h => .inl h)⟩
            case start =>
              intro W hb
              exact ⟨(hb.block _ (lt_of_heap HH.out.2.kn)).trans HH.out.2.kn, (kept_of_below hb).mono (fun _ h => .inr h)⟩
            case round =>
              rintro l' i vs W hi ⟨t, a, ht, rfl, hrd⟩
              gi_wp2
              clear hrd
              first
                | (refine ⟨trivial, ?_⟩; rintro W2 ⟨hn2, _⟩ hk2 ⟨t', a', ht', he, hrd⟩)
                | (rintro W2 hn2 hk2 ⟨t', a', ht', he, hrd⟩)
              rw [ht] at ht'
              cases ht'
              have ea : a = a' := by simpa using he
              subst ea
              have hix : t.1.index = i := HH.out.1.rs.ri.go.index i t.1 (by rw [List.getElem?_map, ht]; rfl)
              rw [hix]
              have cn := cell_of_block (i := 0) hn2 rfl
              have fn2 := frozen_of_block (i := 0) hn2
              obtain ⟨ra9, rc9, hrv9⟩ := own_shape HH.out.1.om.own
              have c6 : W2.cell? ⟨w3.heap.size + 1, 0, none⟩ = some (.slice ra9 (tA.map (·.1.data)).length rc9) := by
                rw [← hrv9]
                exact hk2.cell (cell_of_block (i := 0) HH.out.1.om.b6 rfl) (by show ¬ (w3.heap.size + 1 = nb ∨ W9.heap.size ≤ w3.heap.size + 1); have := HH.out.2.b6; have := HH.out.2.sz; omega)
              obtain ⟨rg, hra9, cr⟩ : ∃ rg, ra9 = some ⟨rg, 0, none⟩ ∧ W2.cell? ⟨rg, i, none⟩ = some (sv t.1.data) := by
                have ho := HH.out.1.om.own
                have hlt9 := HH.out.2.rv
                rw [hrv9] at ho hlt9
                rcases ho.2 with ⟨e, h0⟩ | ⟨rg, cap, cur, e, _⟩
                · rw [List.length_map] at h0; omega
                · injection e with e1 e2 e3
                  subst e1
                  refine ⟨rg, rfl, ?_⟩
                  have h1 := ho.cells (g := rg) rfl i (sv t.1.data) (by simp [ht])
                  rw [add_none, Nat.zero_add] at h1
                  have h2 := hlt9 rg rfl
                  exact hk2.cell h1 (by show ¬ (rg = nb ∨ W9.heap.size ≤ rg); have := HH.out.2.sz; omega)
              subst hra9
              clear hrv9
              rw [List.length_map] at c6
              have hnle : ¬ (tA.length : Int) ≤ (i : Int) := by omega
              have hnl2 : ¬ tA.length ≤ i := by omega
              have hdb1 : decide ((tA.length : Int) ≤ (i : Int)) = false := by simp; omega
              have hdb2 : decide (tA.length ≤ i) = false := by simp; omega
              have cvs := hrd.convs
              have hii : (i : Int) < tA.length := by omega
              have hti : (tA.length : Int) ≤ 100000 := by have := HH.out.1.rs.ls.tl; omega
              have HK2 := mkHid (And.intro hn2 hk2)
              clear hn2 hk2 hrd he
              unfold sv at cr
              gi_wp2
              refine wpIn_region_quiet_round (F := Fence.wide) rfl (by kernel_rfl) (by kernel_rfl) (by kernel_rfl) ?_
              repeat (gi_big_quiet_step (fail))
              refine wpQuietIn_nil ?_
              intro _ hw'
              obtain ⟨nq, hw''⟩ := hw'
              subst hw''
              gi_wp2
              have kT : Kept (fun k => k = nb) W2 ((W2.drewN nq).setCell ⟨nb, 0, none⟩ (Value.int IntKind.i64 ((i : Int) + 1))) := (drewN_kept _ W2 nq).trans (Kept.setCell (F := fun k => k = nb) _ (p := ⟨nb, 0, none⟩) rfl _) (fun _ h => .inl h)
              have kS : Kept (fun k => k = nb ∨ W9.heap.size ≤ k) W2 ((W2.drewN nq).setCell ⟨nb, 0, none⟩ (Value.int IntKind.i64 ((i : Int) + 1))) := kT.mono (fun _ h => .inl h)
              refine ⟨?_, kS, ?_, HK2.out.2.trans kS (fun _ h => .inl h)⟩
              · exact ⟨kT.size, fun k o hk ho _ => (kT.block k (lt_of_heap ho) (by have := HH.out.2.sz; omega)).trans ho⟩
              · exact heap_set1 (show (W2.drewN nq).heap[nb]? = _ from HK2.out.1)
            case done =>
              rintro D W hD ⟨hnW, hkW⟩ hDd
              have cn := cell_of_block (i := 0) hnW rfl
              obtain ⟨ra9, rc9, hrv9⟩ := own_shape HH.out.1.om.own
              have c6 : W.cell? ⟨w3.heap.size + 1, 0, none⟩ = some (.slice ra9 (tA.map (·.1.data)).length rc9) := by
                rw [← hrv9]
                exact hkW.cell (cell_of_block (i := 0) HH.out.1.om.b6 rfl) (by show ¬ (w3.heap.size + 1 = nb ∨ W9.heap.size ≤ w3.heap.size + 1); have := HH.out.2.b6; have := HH.out.2.sz; omega)
              rw [List.length_map] at c6
              clear hrv9
              dsimp only
              go_wp2
              refine HKK.out _ _ ⟨?_, ?_⟩
              · (repeat apply Exists.intro)
                refine ⟨?_, rfl⟩
                exact rows_end HH.out.1 HH.out.2 (by omega) (by omega) (by omega) (by omega) (by omega) (by omega) hkW hD hDd
              · simp [intOf]; omega
          · skip
            obtain ⟨nb, hnb⟩ : ∃ nb, nb = w5.heap.size := ⟨_, rfl⟩
            obtain ⟨W9, hW9⟩ : ∃ W9, W9 = (((w5).alloc (Obj.cells #[Value.int IntKind.i64 0] 3)).alloc (Obj.cells #[Value.slice (some ⟨gv, 0, none⟩) ts.length ts.length] 67)) := ⟨_, rfl⟩
            have HH := mkHid (rows_mid HS8.out gv ts.length nb hW9 (hnb.trans (by simp)))
            rw [← hW9, ← hnb]
            clear hW9 hnb
            clear d0 d1 d2 d3
            rw [← wpIn_wide (n := 5)]
            refine range_sq2 (n := 5) (m := 3) (by omega) (gf := 48) (lb := #[.pointer (some ⟨nb + 1, 0, none⟩)]) rfl (enters_of Tryd.func48 (by kernel_rfl) rfl)
              (recs1_in 4 (by omega) FR1 (fun k => k = nb ∨ W9.heap.size ≤ k) W9 (nb + 1) gv vc ts (cell_of_block (i := 0) HH.out.2.ks rfl) HH.out.1.rs.ls.rc (by have := HH.out.2.sz; omega) (fun k hk => by have := HH.out.2.fr k hk; have := HH.out.2.sz; omega) HH.out.1.rs.ls.tp (by have := HH.out.1.rs.ls.tl; omega))
              (fun k hk => .inr hk) (fun i vs W h => by obtain ⟨_, _, _, rfl, _⟩ := h; rfl) (EncR.calm ts _)
              (fun i W => W.heap[nb]? = some (.cells #[.int .i64 (i : Int)] 3 (0, 0)) ∧ Kept (fun k => k = nb ∨ W9.heap.size ≤ k) W9 W)
              ?calm ?fresh ?start ?round ?done
            case calm =>
              rintro i W l' o o' ⟨h1, h2⟩ hl' ho hc
              exact ⟨(World.putObj_heap_other (by have := HH.out.2.sz; omega)).trans h1, h2.trans (Kept.grown (grownBy_putObj' W l' o') (fun k e => by cases e; exact .inr hl')) (fun _ h => .inl h)⟩
            case fresh =>
              rintro i W1 W2 ⟨h1, h2⟩ hb
              exact ⟨(hb.block _ (lt_of_heap h1)).trans h1, h2.trans (kept_below (fun k => k = nb ∨ W9.heap.size ≤ k) hb) (fun _ h => .inl h)⟩
            case start =>
              intro W hb
              exact ⟨(hb.block _ (lt_of_heap HH.out.2.kn)).trans HH.out.2.kn, (kept_of_below hb).mono (fun _ h => .inr h)⟩
            case round =>
              rintro l' i vs W hi ⟨t, a, ht, rfl, hrd⟩
              gi_wp2
              clear hrd
              first
                | (refine ⟨trivial, ?_⟩; rintro W2 ⟨hn2, _⟩ hk2 ⟨t', a', ht', he, hrd⟩)
                | (rintro W2 hn2 hk2 ⟨t', a', ht', he, hrd⟩)
              rw [ht] at ht'
              cases ht'
              have ea : a = a' := by simpa using he
              subst ea
              have hix : t.1.index = i := HH.out.1.rs.ri.go.index i t.1 (by rw [List.getElem?_map, ht]; rfl)
              rw [hix]
              have cn := cell_of_block (i := 0) hn2 rfl
              have fn2 := frozen_of_block (i := 0) hn2
              obtain ⟨ra9, rc9, hrv9⟩ := own_shape HH.out.1.om.own
              have c6 : W2.cell? ⟨w3.heap.size + 1, 0, none⟩ = some (.slice ra9 (ts.map (·.1.data)).length rc9) := by
                rw [← hrv9]
                exact hk2.cell (cell_of_block (i := 0) HH.out.1.om.b6 rfl) (by show ¬ (w3.heap.size + 1 = nb ∨ W9.heap.size ≤ w3.heap.size + 1); have := HH.out.2.b6; have := HH.out.2.sz; omega)
              obtain ⟨rg, hra9, cr⟩ : ∃ rg, ra9 = some ⟨rg, 0, none⟩ ∧ W2.cell? ⟨rg, i, none⟩ = some (sv t.1.data) := by
                have ho := HH.out.1.om.own
                have hlt9 := HH.out.2.rv
                rw [hrv9] at ho hlt9
                rcases ho.2 with ⟨e, h0⟩ | ⟨rg, cap, cur, e, _⟩
                · rw [List.length_map] at h0; omega
                · injection e with e1 e2 e3
                  subst e1
                  refine ⟨rg, rfl, ?_⟩
                  have h1 := ho.cells (g := rg) rfl i (sv t.1.data) (by simp [ht])
                  rw [add_none, Nat.zero_add] at h1
                  have h2 := hlt9 rg rfl
                  exact hk2.cell h1 (by show ¬ (rg = nb ∨ W9.heap.size ≤ rg); have := HH.out.2.sz; omega)
              subst hra9
              clear hrv9
              rw [List.length_map] at c6
              have hnle : ¬ (ts.length : Int) ≤ (i : Int) := by omega
              have hnl2 : ¬ ts.length ≤ i := by omega
              have hdb1 : decide ((ts.length : Int) ≤ (i : Int)) = false := by simp; omega
              have hdb2 : decide (ts.length ≤ i) = false := by simp; omega
              have cvs := hrd.convs
              have hii : (i : Int) < ts.length := by omega
              have hti : (ts.length : Int) ≤ 100000 := by have := HH.out.1.rs.ls.tl; omega
              have HK2 := mkHid (And.intro hn2 hk2)
              clear hn2 hk2 hrd he
              unfold sv at cr
              gi_wp2
              refine wpIn_region_quiet_round (F := Fence.wide) rfl (by kernel_rfl) (by kernel_rfl) (by kernel_rfl) ?_
              repeat (gi_big_quiet_step (fail))
              refine wpQuietIn_nil ?_
              intro _ hw'
              obtain ⟨nq, hw''⟩ := hw'
              subst hw''
              gi_wp2
              have kT : Kept (fun k => k = nb) W2 ((W2.drewN nq).setCell ⟨nb, 0, none⟩ (Value.int IntKind.i64 ((i : Int) + 1))) := (drewN_kept _ W2 nq).trans (Kept.setCell (F := fun k => k = nb) _ (p := ⟨nb, 0, none⟩) rfl _) (fun _ h => .inl h)
              have kS : Kept (fun k => k = nb ∨ W9.heap.size ≤ k) W2 ((W2.drewN nq).setCell ⟨nb, 0, none⟩ (Value.int IntKind.i64 ((i : Int) + 1))) := kT.mono (fun _ h => .inl h)
              refine ⟨?_, kS, ?_, HK2.out.2.trans kS (fun _ h => .inl h)⟩
              · exact ⟨kT.size, fun k o hk ho _ => (kT.block k (lt_of_heap ho) (by have := HH.out.2.sz; omega)).trans ho⟩
              · exact heap_set1 (show (W2.drewN nq).heap[nb]? = _ from HK2.out.1)
            case done =>
              rintro D W hD ⟨hnW, hkW⟩ hDd
              have cn := cell_of_block (i := 0) hnW rfl
              obtain ⟨ra9, rc9, hrv9⟩ := own_shape HH.out.1.om.own
              have c6 : W.cell? ⟨w3.heap.size + 1, 0, none⟩ = some (.slice ra9 (ts.map (·.1.data)).length rc9) := by
                rw [← hrv9]
                exact hkW.cell (cell_of_block (i := 0) HH.out.1.om.b6 rfl) (by show ¬ (w3.heap.size + 1 = nb ∨ W9.heap.size ≤ w3.heap.size + 1); have := HH.out.2.b6; have := HH.out.2.sz; omega)
              rw [List.length_map] at c6
              clear hrv9
              dsimp only
              go_wp2
              refine HKK.out _ _ ⟨?_, ?_⟩
              · (repeat apply Exists.intro)
                refine ⟨?_, rfl⟩
                exact rows_end HH.out.1 HH.out.2 (by omega) (by omega) (by omega) (by omega) (by omega) (by omega) hkW hD hDd
              · simp [intOf]; omega
        · skip
          have HO : Hid (ST w (wr.alloc (Obj.cells #[Value.int IntKind.i64 2, Value.int IntKind.i64 nn, Value.int IntKind.u64 kp, Value.slice ba bs.length bc] 41)) l1 p (w3.heap.size + 1) E G I (1 + j) F1 FR1 fr nx f c nw (.slice (some ⟨gv, 0, none⟩) ts.length vc) ts (.slice ra ts.length rc) ds) := mkHid (HL.out.below ((Below.refl _ wr).alloc (Nat.le_refl _) _))
          have HNZ : Hid (¬ Zs w F1 FR1 l1 wr.heap.size) := mkHid (fun hz => by have := HL.out.rs.zlt _ hz; omega)
          go_wp2_with (go_at_call 21; refine (open_st HO.out (by omega) (by omega) eS eL eB eF HE.out.1 HE.out.2.1 HE.out.2.2.1 HE.out.2.2.2).mono ?_; rintro e w5 ⟨l5, sa, la, lc, F5, FR5, f5, nw5, v5, tA, data, rest, rfl, hs5, hd5, hrd5, hk5⟩; obtain ⟨gA, vA, rfl, hvA, _⟩ := hs5.rs.ls.rc.at hs5.rs.ls.tp; have HS5 := mkHid hs5; have HD5 := mkHid hd5; have HRD5 := mkHid hrd5; clear hs5 hd5 hrd5 hk5)
          have b65 := cell_of_block (i := 0) HS5.out.om.b6 rfl
          have cvs := HRD5.out.convs
          obtain ⟨rg, hra, cr⟩ : ∃ rg, ra = some ⟨rg, 0, none⟩ ∧ w5.cell? ⟨rg, 0, none⟩ = some (sv data) := by
            have ho := HS5.out.om.own
            rw [HD5.out] at ho
            rcases ho.2 with ⟨e, h0⟩ | ⟨rg, cap, cur, e, _⟩
            · simp at h0
            · injection e with e1 e2 e3
              subst e1
              refine ⟨rg, rfl, ?_⟩
              have h1 := ho.cells (g := rg) rfl 0 (sv data) (by simp)
              rw [add_none] at h1
              exact h1
          subst hra
          have hlen : tA.length = rest.length + 1 := by have := congrArg List.length HD5.out; simpa using this
          have hown : tA.length = ts.length := by
            have ho := HS5.out.om.own
            obtain ⟨_, _, e⟩ := own_shape ho
            injection e with e1 e2 e3
            rw [List.length_map] at e2
            exact e2.symm
          have hnl : (ts.length : Int) - 1 = rest.length := by omega
          have hti : (ts.length : Int) ≤ 100000 := by have := HL.out.rs.ls.tl; omega
          have hpl : (0 : Int) < ts.length := by omega
          have hpn : 0 < ts.length := by omega
          have HLN := mkHid (And.intro hlen hown)
          clear hlen hown
          unfold sv at cr
          go_quiet (fail)
          obtain ⟨wD, hwD⟩ : ∃ wD, wD = w5.drewN nq := ⟨_, rfl⟩
          have HS8 : Hid (ST w wD l5 p (w3.heap.size + 1) (E + 1) G I (1 + j + 1) F5 FR5 fr nx f5 [] nw5 (.slice (some ⟨gA, 0, none⟩) tA.length vA) tA (.slice (some ⟨rg, 0, none⟩) ts.length rc) ds) := mkHid (by rw [hwD]; exact HS5.out.below (show Below w5.heap.size w5 (w5.drewN nq) from ⟨rfl, rfl, rfl, Nat.le_refl _, fun _ _ => rfl⟩))
          rw [← hwD]
          clear hwD
          clear b65 cvs cr hnl hpl hpn
          go_wp2_with (go_at_call 23; refine (records_is _ l5 p fr (fr + 99) nx (E + 1) (some ⟨gA, 0, none⟩) tA.length vA ((HS8.out.below ((Below.refl _ _).alloc (Nat.le_refl _) _)).rs.ls.lg) hvA).mono ?_; rintro e w7 ⟨rfl, hw7⟩; rw [hw7]; clear hw7)
          obtain ⟨nb, hnb⟩ : ∃ nb, nb = wD.heap.size := ⟨_, rfl⟩
          obtain ⟨W9, hW9⟩ : ∃ W9, W9 = (((wD).alloc (Obj.cells #[Value.int IntKind.i64 0] 3)).alloc (Obj.cells #[Value.slice (some ⟨gA, 0, none⟩) tA.length tA.length] 67)) := ⟨_, rfl⟩
          have HH := mkHid (rows_mid HS8.out gA tA.length nb hW9 (hnb.trans (by simp)))
          rw [← hW9, ← hnb]
          clear hW9 hnb
          clear d0 d1 d2 d3
          rw [← wpIn_wide (n := 5)]
          refine range_sq2 (n := 5) (m := 3) (by omega) (gf := 48) (lb := #[.pointer (some ⟨nb + 1, 0, none⟩)]) rfl (enters_of Tryd.func48 (by kernel_rfl) rfl)
            (recs1_in 4 (by omega) FR5 (fun k => k = nb ∨ W9.heap.size ≤ k) W9 (nb + 1) gA vA tA (cell_of_block (i := 0) HH.out.2.ks rfl) HH.out.1.rs.ls.rc (by have := HH.out.2.sz; omega) (fun k hk => by have := HH.out.2.fr k hk; have := HH.out.2.sz; omega) HH.out.1.rs.ls.tp (by have := HH.out.1.rs.ls.tl; omega))
            (fun k hk => .inr hk) (fun i vs W h => by obtain ⟨_, _, _, rfl, _⟩ := h; rfl) (EncR.calm tA _)
            (fun i W => W.heap[nb]? = some (.cells #[.int .i64 (i : Int)] 3 (0, 0)) ∧ Kept (fun k => k = nb ∨ W9.heap.size ≤ k) W9 W)
            ?calm ?fresh ?start ?round ?done
          case calm =>
            rintro i W l' o o' ⟨h1, h2⟩ hl' ho hc
            exact ⟨(World.putObj_heap_other (by have := HH.out.2.sz; omega)).trans h1, h2.trans (Kept.grown (grownBy_putObj' W l' o') (fun k e => by cases e; exact .inr hl')) (fun _ h => .inl h)⟩
          case fresh =>
            rintro i W1 W2 ⟨h1, h2⟩ hb
            exact ⟨(hb.block _ (lt_of_heap h1)).trans h1, h2.trans (kept_below (fun k => k = nb ∨ W9.heap.size ≤ k) hb) (fun _ h => .inl h)⟩
          case start =>
            intro W hb
            exact ⟨(hb.block _ (lt_of_heap HH.out.2.kn)).trans HH.out.2.kn, (kept_of_below hb).mono (fun _ h => .inr h)⟩
          case round =>
            rintro l' i vs W hi ⟨t, a, ht, rfl, hrd⟩
            gi_wp2
            clear hrd
            first
              | (refine ⟨trivial, ?_⟩; rintro W2 ⟨hn2, _⟩ hk2 ⟨t', a', ht', he, hrd⟩)
              | (rintro W2 hn2 hk2 ⟨t', a', ht', he, hrd⟩)
            rw [ht] at ht'
            cases ht'
            have ea : a = a' := by simpa using he
            subst ea
            have hix : t.1.index = i := HH.out.1.rs.ri.go.index i t.1 (by rw [List.getElem?_map, ht]; rfl)
            rw [hix]
            have cn := cell_of_block (i := 0) hn2 rfl
            have fn2 := frozen_of_block (i := 0) hn2
            obtain ⟨ra9, rc9, hrv9⟩ := own_shape HH.out.1.om.own
            have c6 : W2.cell? ⟨w3.heap.size + 1, 0, none⟩ = some (.slice ra9 (tA.map (·.1.data)).length rc9) := by
              rw [← hrv9]
              exact hk2.cell (cell_of_block (i := 0) HH.out.1.om.b6 rfl) (by show ¬ (w3.heap.size + 1 = nb ∨ W9.heap.size ≤ w3.heap.size + 1); have := HH.out.2.b6; have := HH.out.2.sz; omega)
            obtain ⟨rg, hra9, cr⟩ : ∃ rg, ra9 = some ⟨rg, 0, none⟩ ∧ W2.cell? ⟨rg, i, none⟩ = some (sv t.1.data) := by
              have ho := HH.out.1.om.own
              have hlt9 := HH.out.2.rv
              rw [hrv9] at ho hlt9
              rcases ho.2 with ⟨e, h0⟩ | ⟨rg, cap, cur, e, _⟩
              · rw [List.length_map] at h0; omega
              · injection e with e1 e2 e3
                subst e1
                refine ⟨rg, rfl, ?_⟩
                have h1 := ho.cells (g := rg) rfl i (sv t.1.data) (by simp [ht])
                rw [add_none, Nat.zero_add] at h1
                have h2 := hlt9 rg rfl
                exact hk2.cell h1 (by show ¬ (rg = nb ∨ W9.heap.size ≤ rg); have := HH.out.2.sz; omega)
            subst hra9
            clear hrv9
            rw [List.length_map] at c6
            have hnle : ¬ (tA.length : Int) ≤ (i : Int) := by omega
            have hnl2 : ¬ tA.length ≤ i := by omega
            have hdb1 : decide ((tA.length : Int) ≤ (i : Int)) = false := by simp; omega
            have hdb2 : decide (tA.length ≤ i) = false := by simp; omega
            have cvs := hrd.convs
            have hii : (i : Int) < tA.length := by omega
            have hti : (tA.length : Int) ≤ 100000 := by have := HH.out.1.rs.ls.tl; omega
            have HK2 := mkHid (And.intro hn2 hk2)
            clear hn2 hk2 hrd he
            unfold sv at cr
            gi_wp2
            refine wpIn_region_quiet_round (F := Fence.wide) rfl (by kernel_rfl) (by kernel_rfl) (by kernel_rfl) ?_
            repeat (gi_big_quiet_step (fail))
            refine wpQuietIn_nil ?_
            intro _ hw'
            obtain ⟨nq, hw''⟩ := hw'
            subst hw''
            gi_wp2
            have kT : Kept (fun k => k = nb) W2 ((W2.drewN nq).setCell ⟨nb, 0, none⟩ (Value.int IntKind.i64 ((i : Int) + 1))) := (drewN_kept _ W2 nq).trans (Kept.setCell (F := fun k => k = nb) _ (p := ⟨nb, 0, none⟩) rfl _) (fun _ h => .inl h)
            have kS : Kept (fun k => k = nb ∨ W9.heap.size ≤ k) W2 ((W2.drewN nq).setCell ⟨nb, 0, none⟩ (Value.int IntKind.i64 ((i : Int) + 1))) := kT.mono (fun _ h => .inl h)
            refine ⟨?_, kS, ?_, HK2.out.2.trans kS (fun _ h => .inl h)⟩
            · exact ⟨kT.size, fun k o hk ho _ => (kT.block k (lt_of_heap ho) (by have := HH.out.2.sz; omega)).trans ho⟩
            · exact heap_set1 (show (W2.drewN nq).heap[nb]? = _ from HK2.out.1)
          case done =>
            rintro D W hD ⟨hnW, hkW⟩ hDd
            have cn := cell_of_block (i := 0) hnW rfl
            obtain ⟨ra9, rc9, hrv9⟩ := own_shape HH.out.1.om.own
            have c6 : W.cell? ⟨w3.heap.size + 1, 0, none⟩ = some (.slice ra9 (tA.map (·.1.data)).length rc9) := by
              rw [← hrv9]
              exact hkW.cell (cell_of_block (i := 0) HH.out.1.om.b6 rfl) (by show ¬ (w3.heap.size + 1 = nb ∨ W9.heap.size ≤ w3.heap.size + 1); have := HH.out.2.b6; have := HH.out.2.sz; omega)
            rw [List.length_map] at c6
            clear hrv9
            dsimp only
            go_wp2
            refine HKK.out _ _ ⟨?_, ?_⟩
            · (repeat apply Exists.intro)
              refine ⟨?_, rfl⟩
              exact rows_end HH.out.1 HH.out.2 (by omega) (by omega) (by omega) (by omega) (by omega) (by omega) hkW hD hDd
            · simp [intOf]; omega
        · skip
          have HO : Hid (ST w (wr.alloc (Obj.cells #[Value.int IntKind.i64 kd, Value.int IntKind.i64 nn, Value.int IntKind.u64 kp, Value.slice ba bs.length bc] 41)) l1 p (w3.heap.size + 1) E G I (1 + j) F1 FR1 fr nx f c nw (.slice (some ⟨gv, 0, none⟩) ts.length vc) ts (.slice ra ts.length rc) ds) := mkHid (HL.out.below ((Below.refl _ wr).alloc (Nat.le_refl _) _))
          have HNZ : Hid (¬ Zs w F1 FR1 l1 wr.heap.size) := mkHid (fun hz => by have := HL.out.rs.zlt _ hz; omega)
          go_wp2_with (go_at_call 23; refine (records_is _ l1 p fr (fr + 99) nx E (some ⟨gv, 0, none⟩) ts.length vc ((HO.out.below ((Below.refl _ _).alloc (Nat.le_refl _) _)).rs.ls.lg) hvc).mono ?_; rintro e w7 ⟨rfl, hw7⟩; rw [hw7]; clear hw7)
          obtain ⟨nb, hnb⟩ : ∃ nb, nb = wr.heap.size + 1 := ⟨_, rfl⟩
          obtain ⟨W9, hW9⟩ : ∃ W9, W9 = (((wr.alloc (Obj.cells #[Value.int IntKind.i64 kd, Value.int IntKind.i64 nn, Value.int IntKind.u64 kp, Value.slice ba bs.length bc] 41)).alloc (Obj.cells #[Value.int IntKind.i64 0] 3)).alloc (Obj.cells #[Value.slice (some ⟨gv, 0, none⟩) ts.length ts.length] 67)) := ⟨_, rfl⟩
          have HH := mkHid (rows_mid HO.out gv ts.length nb hW9 (hnb.trans (by simp)))
          rw [← hW9, ← hnb]
          clear hW9 hnb
          clear d0 d1 d2 d3
          rw [← wpIn_wide (n := 5)]
          refine range_sq2 (n := 5) (m := 3) (by omega) (gf := 48) (lb := #[.pointer (some ⟨nb + 1, 0, none⟩)]) rfl (enters_of Tryd.func48 (by kernel_rfl) rfl)
            (recs1_in 4 (by omega) FR1 (fun k => k = nb ∨ W9.heap.size ≤ k) W9 (nb + 1) gv vc ts (cell_of_block (i := 0) HH.out.2.ks rfl) HH.out.1.rs.ls.rc (by have := HH.out.2.sz; omega) (fun k hk => by have := HH.out.2.fr k hk; have := HH.out.2.sz; omega) HH.out.1.rs.ls.tp (by have := HH.out.1.rs.ls.tl; omega))
            (fun k hk => .inr hk) (fun i vs W h => by obtain ⟨_, _, _, rfl, _⟩ := h; rfl) (EncR.calm ts _)
            (fun i W => W.heap[nb]? = some (.cells #[.int .i64 (i : Int)] 3 (0, 0)) ∧ Kept (fun k => k = nb ∨ W9.heap.size ≤ k) W9 W)
            ?calm ?fresh ?start ?round ?done
          case calm =>
            rintro i W l' o o' ⟨h1, h2⟩ hl' ho hc
            exact ⟨(World.putObj_heap_other (by have := HH.out.2.sz; omega)).trans h1, h2.trans (Kept.grown (grownBy_putObj' W l' o') (fun k e => by cases e; exact .inr hl')) (fun _ h => .inl h)⟩
          case fresh =>
            rintro i W1 W2 ⟨h1, h2⟩ hb
            exact ⟨(hb.block _ (lt_of_heap h1)).trans h1, h2.trans (kept_below (fun k => k = nb ∨ W9.heap.size ≤ k) hb) (fun _ h => .inl h)⟩
          case start =>
            intro W hb
            exact ⟨(hb.block _ (lt_of_heap HH.out.2.kn)).trans HH.out.2.kn, (kept_of_below hb).mono (fun _ h => .inr h)⟩
          case round =>
            rintro l' i vs W hi ⟨t, a, ht, rfl, hrd⟩
            gi_wp2
            clear hrd
            first
              | (refine ⟨trivial, ?_⟩; rintro W2 ⟨hn2, _⟩ hk2 ⟨t', a', ht', he, hrd⟩)
              | (rintro W2 hn2 hk2 ⟨t', a', ht', he, hrd⟩)
            rw [ht] at ht'
            cases ht'
            have ea : a = a' := by simpa using he
            subst ea
            have hix : t.1.index = i := HH.out.1.rs.ri.go.index i t.1 (by rw [List.getElem?_map, ht]; rfl)
            rw [hix]
            have cn := cell_of_block (i := 0) hn2 rfl
            have fn2 := frozen_of_block (i := 0) hn2
            obtain ⟨ra9, rc9, hrv9⟩ := own_shape HH.out.1.om.own
            have c6 : W2.cell? ⟨w3.heap.size + 1, 0, none⟩ = some (.slice ra9 (ts.map (·.1.data)).length rc9) := by
              rw [← hrv9]
              exact hk2.cell (cell_of_block (i := 0) HH.out.1.om.b6 rfl) (by show ¬ (w3.heap.size + 1 = nb ∨ W9.heap.size ≤ w3.heap.size + 1); have := HH.out.2.b6; have := HH.out.2.sz; omega)
            obtain ⟨rg, hra9, cr⟩ : ∃ rg, ra9 = some ⟨rg, 0, none⟩ ∧ W2.cell? ⟨rg, i, none⟩ = some (sv t.1.data) := by
              have ho := HH.out.1.om.own
              have hlt9 := HH.out.2.rv
              rw [hrv9] at ho hlt9
              rcases ho.2 with ⟨e, h0⟩ | ⟨rg, cap, cur, e, _⟩
              · rw [List.length_map] at h0; omega
              · injection e with e1 e2 e3
                subst e1
                refine ⟨rg, rfl, ?_⟩
                have h1 := ho.cells (g := rg) rfl i (sv t.1.data) (by simp [ht])
                rw [add_none, Nat.zero_add] at h1
                have h2 := hlt9 rg rfl
                exact hk2.cell h1 (by show ¬ (rg = nb ∨ W9.heap.size ≤ rg); have := HH.out.2.sz; omega)
            subst hra9
            clear hrv9
            rw [List.length_map] at c6
            have hnle : ¬ (ts.length : Int) ≤ (i : Int) := by omega
            have hnl2 : ¬ ts.length ≤ i := by omega
            have hdb1 : decide ((ts.length : Int) ≤ (i : Int)) = false := by simp; omega
            have hdb2 : decide (ts.length ≤ i) = false := by simp; omega
            have cvs := hrd.convs
            have hii : (i : Int) < ts.length := by omega
            have hti : (ts.length : Int) ≤ 100000 := by have := HH.out.1.rs.ls.tl; omega
            have HK2 := mkHid (And.intro hn2 hk2)
            clear hn2 hk2 hrd he
            unfold sv at cr
            gi_wp2
            refine wpIn_region_quiet_round (F := Fence.wide) rfl (by kernel_rfl) (by kernel_rfl) (by kernel_rfl) ?_
            repeat (gi_big_quiet_step (fail))
            refine wpQuietIn_nil ?_
            intro _ hw'
            obtain ⟨nq, hw''⟩ := hw'
            subst hw''
            gi_wp2
            have kT : Kept (fun k => k = nb) W2 ((W2.drewN nq).setCell ⟨nb, 0, none⟩ (Value.int IntKind.i64 ((i : Int) + 1))) := (drewN_kept _ W2 nq).trans (Kept.setCell (F := fun k => k = nb) _ (p := ⟨nb, 0, none⟩) rfl _) (fun _ h => .inl h)
            have kS : Kept (fun k => k = nb ∨ W9.heap.size ≤ k) W2 ((W2.drewN nq).setCell ⟨nb, 0, none⟩ (Value.int IntKind.i64 ((i : Int) + 1))) := kT.mono (fun _ h => .inl h)
            refine ⟨?_, kS, ?_, HK2.out.2.trans kS (fun _ h => .inl h)⟩
            · exact ⟨kT.size, fun k o hk ho _ => (kT.block k (lt_of_heap ho) (by have := HH.out.2.sz; omega)).trans ho⟩
            · exact heap_set1 (show (W2.drewN nq).heap[nb]? = _ from HK2.out.1)
          case done =>
            rintro D W hD ⟨hnW, hkW⟩ hDd
            have cn := cell_of_block (i := 0) hnW rfl
            obtain ⟨ra9, rc9, hrv9⟩ := own_shape HH.out.1.om.own
            have c6 : W.cell? ⟨w3.heap.size + 1, 0, none⟩ = some (.slice ra9 (ts.map (·.1.data)).length rc9) := by
              rw [← hrv9]
              exact hkW.cell (cell_of_block (i := 0) HH.out.1.om.b6 rfl) (by show ¬ (w3.heap.size + 1 = nb ∨ W9.heap.size ≤ w3.heap.size + 1); have := HH.out.2.b6; have := HH.out.2.sz; omega)
            rw [List.length_map] at c6
            clear hrv9
            dsimp only
            go_wp2
            refine HKK.out _ _ ⟨?_, ?_⟩
            · (repeat apply Exists.intro)
              refine ⟨?_, rfl⟩
              exact rows_end HH.out.1 HH.out.2 (by omega) (by omega) (by omega) (by omega) (by omega) (by omega) hkW hD hDd
            · simp [intOf]; omega
    · obtain rfl : j = xs.length := by omega
      go_wp2
      exact rows_leave HL.out.om HL.out.rs.ls.bl (fun _ h => .inl h) (set_true wr w.heap.size) (heap_set1 HL.out.om.b2) rfl
end Go.Proofs.YtcbimclgodkflaaDoor
