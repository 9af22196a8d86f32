/- The law NetCounts. -/
import Derived.Test.YtaiklaipdocdmaaDoorNc1
import Derived.DeepKeys
import Derived.BigQuiet
namespace Go.Proofs.YtaiklaipdocdmaaDoor
open Go.ChangeShapes Go.WideShapes Go.ChangeAt Go.RowKit
set_option maxRecDepth 100000
attribute [local go_sem] World.cell?_alloc_some frozen_alloc_some

theorem info_arr : (Tryd.prog.info? 40).map (fun i => (i.zero, i.size, i.bytes)) = some (some (.agg (rnC 256 (fun _ => 0))), 256, 2048) := by kernel_rfl
theorem zero_arr (w : World) : (zeroValue 40).run Tryd.prog w = .ok (.agg (rnC 256 (fun _ => 0))) w := by
  obtain ⟨i, hi, h1, h2, h3⟩ := info_parts info_arr
  simp [zeroValue, typeInfo, hi, h1]
theorem size_arr : (Tryd.prog.info? 40).map (·.size) = some 256 := by kernel_rfl
theorem wpList_alloc_z {P : Program} {w : World} {ops : Array Oper} {rest : List Oper} {o : Oper} {a : Act} {Q : Exit → Act → World → Prop} (hgd : o.guard = none) (t : TypeId) (ho : o.op = .alloc t) (z : Array Value) (hz : (zeroValue t).run P w = .ok (.agg z) w)
    (h : wpList P ops Q rest (a.put o.dst (.pointer (some ⟨w.heap.size, 0, none⟩))) (w.alloc (.cells z t))) : wpList P ops Q (o :: rest) a w := by
  refine wpList_plain hgd fun K hK => ?_
  unfold Oper.wp execOp
  simp only [ho, Instr.alloc, Sem.run_bind, hz, Result.andThen_ok]
  simp [newVar, Value.cells]
  exact hK _ _ h
theorem plain_int : Tryd.prog.plainKey 3 = true := by kernel_rfl
theorem items_same (w : World) (d n : Nat) (N : Nat → Int) : ∀ is : List Nat, (∀ i ∈ is, i < n) → (Op.eqItems (d + 1) 3 1 (rnC n N) (rnC n N) is).run Tryd.prog w = .ok true w
  | [], _ => by simp [Op.eqItems]
  | i :: is, h => by
    have h1 := rnC_at N (h i (by simp))
    have p1 := run_part_plain (P := Tryd.prog) w plain_int (off := i * 1) (by rw [Nat.mul_one]; exact h1)
    have ih := items_same w d n N is (fun k hk => h k (by simp [hk]))
    have he : (Op.equalIn (d + 1) 3 (.int .i64 (N i)) (.int .i64 (N i))).run Tryd.prog w = .ok true w := by
      rw [run_equalIn_int w d 3 .i64 .i64 (N i) (N i) Tryd.underlying3]; simp
    simp only [Op.eqItems, Sem.run_bind, p1, he, Result.andThen_ok]
    simpa using ih
theorem cells_int : Tryd.prog.cellsOf 3 = 1 := by kernel_rfl
theorem eql_arr (w : World) (N : Nat → Int) : (binOp .eql 40 (.agg (rnC 256 N)) (.agg (rnC 256 N))).run Tryd.prog w = .ok (.bool true) w := by
  obtain ⟨i, hi, _⟩ := info_parts info_int1
  rw [run_eql_struct]
  have := run_equalIn_array (P := Tryd.prog) w 9999 (rnC 256 N) (rnC 256 N) Tryd.underlying40 hi
  rw [this, cells_int, items_same w 9998 256 N _ (fun k hk => List.mem_range.mp hk)]
  rfl
theorem build_arr (w : World) : (Instr.build 40 #[]).run Tryd.prog w = .ok (.agg (rnC 256 (fun _ => 0))) w := by
  kernel_rfl
theorem wpList_build_arr {w : World} {ops : Array Oper} {rest : List Oper} {o : Oper} {a : Act} {Q : Exit → Act → World → Prop} (hgd : o.guard = none) (ho : o.op = .build 40 #[])
    (h : wpList Tryd.prog ops Q rest (a.put o.dst (.agg (rnC 256 (fun _ => 0)))) w) : wpList Tryd.prog ops Q (o :: rest) a w := by
  refine wpList_plain hgd fun K hK => ?_
  have hb := build_arr w
  unfold Oper.wp execOp
  simp only [ho, List.map_toArray, List.map_nil, Sem.run_bind, hb, Result.andThen_ok]
  exact hK _ _ h
theorem u8_ex (x : Int) : ∃ X : Nat, IntKind.u8.wrap x = (X : Int) ∧ X < 256 := by
  refine ⟨(x % 256).toNat, ?_, by omega⟩
  rw [IntKind.wrap_u8]
  omega
/-- The law's loop. -/
def CI (W wr : World) (p a j : Nat) (mv : Value) : Prop := ∃ own n v ps ms N, CM W wr own p n v ps mv ms a N ∧ CK n ms N ∧ n.last ≤ j
theorem CK.num {n : Nt} {ms : List Nat} {N : Nat → Int} (h : CK n ms N) (ho : n.Ok) {k : Nat} (hk : k < 256) : 0 ≤ N k ∧ N k ≤ 4096 := by
  rw [h.cn k hk]
  have := cntL_le n.ls k
  have := ho.len
  omega
theorem CM.own {W wr : World} {own : Nat → Int × Int} {p : Nat} {n : Nt} {v : Value} {ps : List Lp} {mv : Value} {ms : List Nat} {a : Nat} {N : Nat → Int} (h : CM W wr own p n v ps mv ms a N) (hk : CK n ms N) : ∃ za c, mv = .slice za (n.last + 1) c ∧ ∃ g, za = some ⟨g, 0, none⟩ := by
  have hm := h.mr
  rw [hk.ml] at hm
  rcases hm.2 with ⟨_, h0⟩ | ⟨g, cap, _, e, _⟩
  · omega
  · exact ⟨_, cap, e, g, rfl⟩
/-- A mark is found. -/
theorem CM.mark {W wr : World} {own : Nat → Int × Int} {p : Nat} {n : Nt} {v : Value} {ps : List Lp} {za : Option Addr} {c : Nat} {ms : List Nat} {a : Nat} {N : Nat → Int} (h : CM W wr own p n v ps (.slice za (n.last + 1) c) ms a N) (hk : CK n ms N) {Q m : Nat} (hQ : ms[Q]? = some m) : ∃ b, (∀ W', (Instr.indexAt 32 (.slice za (n.last + 1) c) (.int .i64 (Q : Int))).run Tryd.prog W' = .ok (.pointer (some ⟨b, Q, none⟩)) W') ∧ ∀ wr' own' n' v' ps' N', CM W wr' own' p n' v' ps' (.slice za (n.last + 1) c) ms a N' → wr'.cell? ⟨b, Q, none⟩ = some (.int .u8 (m : Int)) := by
  obtain ⟨za', c', e, g, hg⟩ := h.own hk
  simp only [Value.slice.injEq] at e
  obtain ⟨rfl, _, rfl⟩ := e
  have hl := (List.getElem?_eq_some_iff.mp hQ).1
  rw [hk.ml] at hl
  subst hg
  refine ⟨g, fun W' => ?_, fun wr' own' n' v' ps' N' h' => h'.mcell hQ⟩
  have h1 : (Q : Int) < ((n.last + 1 : Nat) : Int) := by omega
  have h0 : (0 : Int) ≤ (Q : Int) := by omega
  have h2 : (Q : Int) < (n.last : Int) + 1 := by omega
  go_simp
/-- A letter that is found by its number. -/
theorem found {n : Nt} (h : n.Ok) {J K : Nat} {l : Lt} {t : Int} (hl : n.ls[J]? = some l) (ht : l.nu = t) (hf : n.find t = some K) : K = J := by
  rw [← ht, find_nu h hl] at hf
  exact (Option.some.inj hf).symm
theorem found_no {n : Nt} (h : n.Ok) {J : Nat} {l : Lt} {t : Int} (hl : n.ls[J]? = some l) (ht : l.nu = t) (hf : n.find t = none) : False := by
  rw [← ht, find_nu h hl] at hf
  cases hf
theorem drewN_below17 {W w : World} (h : Below W.heap.size W w) (n : Nat) : Below W.heap.size W (w.drewN n) := ⟨h.os, h.tape, h.output, h.size, h.block⟩
theorem src_one' (w : World) (x : Int) (p : Nat) (hp : p = w.heap.size) : Src Tryd.prog 1 32 (.slice (some ⟨p, 0, none⟩) 1 1) 1 [.int .u8 x] (w.alloc (.cells #[.int .u8 x] 5)) := by
  subst hp
  exact src_one w x
/-- What is put behind. -/
theorem CI.push {W wr w4 : World} {own : Nat → Int × Int} {p : Nat} {n : Nt} {v : Value} {ps : List Lp} {mv v4 : Value} {ms : List Nat} {a m j : Nat} {N : Nat → Int} {o : Obj} {l : Lt} (h : CM W wr own p (n.put l) v ps mv ms a (upd N m (N m + 1))) (hk : CK n ms N) (hm : m < 256) (hb : l.bs = [(m : Int)]) (hf : l.fr = 1) (ht : l.to = 2) (hj : n.last ≤ j) (ho : w4.ownsRow W.heap.size 5 1 v4 (ms.length + 1) (ms.map (fun m : Nat => Value.int .u8 (m : Int)) ++ [.int .u8 (m : Int)])) (hg : (wr.alloc o).grownBy w4 mv.ownBlock) (hat : v4.ownBlock = mv.ownBlock ∨ v4.ownBlock = some (wr.alloc o).heap.size) : CI W w4 p a (j + 1) v4 :=
  ⟨own, _, v, ps, _, _, h.push ho hg hat, hk.put hm hb hf ht, by show n.last + 1 ≤ _; omega⟩
/-- The law's last loop. -/
def WE (W wr : World) (own : Nat → Int × Int) (p : Nat) (n : Nt) (mv : Value) (ms : List Nat) (a : Nat) (z : Option Addr) (zc i : Nat) : Prop :=
  ∃ n' v' ps' N', CM W wr own p n' v' ps' mv ms a N' ∧ CK n' ms N' ∧ n'.ls = n.ls.drop i ∧ wr.ownsRow W.heap.size 3 1 (.slice z n.ls.length zc) n.ls.length ((n.ls.map (·.nu)).map iv) ∧ ∀ k, (Value.slice z n.ls.length zc).ownBlock = some k → (own k).1 ≠ 1 ∧ k ≠ a
theorem WE.zero {W wr : World} {own : Nat → Int × Int} {p : Nat} {n : Nt} {v : Value} {ps : List Lp} {mv : Value} {ms : List Nat} {a : Nat} {N : Nat → Int} {w5 : World} {z : Option Addr} {zc : Nat} (h : CM W wr own p n v ps mv ms a N) (hk : CK n ms N) (hb : Below wr.heap.size wr w5) (ho : w5.ownsRow wr.heap.size 3 1 (.slice z n.ls.length zc) n.ls.length ((n.ls.map (·.nu)).map iv)) : WE W w5 own p n mv ms a z zc 0 := by
  refine ⟨n, v, ps, N, h.below hb, hk, rfl, own_lower ho h.bel.size, fun k e => ?_⟩
  have h1 := (ho.lt k e).1
  exact ⟨by rw [h.nb.sz k h1]; simp, fun f => by have := lt_of_heap h.ar; omega⟩
theorem drop_head {α : Type} {xs : List α} {i : Nat} {x : α} (h : xs[i]? = some x) : (xs.drop i)[0]? = some x := by
  rw [List.getElem?_drop]; simpa using h
theorem drop_erase {α : Type} {xs ys : List α} {i : Nat} (h : ys = xs.drop i) : ys.eraseIdx 0 = xs.drop (i + 1) := by
  rw [h, List.eraseIdx_zero, List.tail_drop]
theorem WE.step {W w7 w8 : World} {own : Nat → Int × Int} {p : Nat} {n n' : Nt} {v8 : Value} {ps8 : List Lp} {mv : Value} {ms : List Nat} {a m : Nat} {N' : Nat → Int} {z : Option Addr} {zc i : Nat} {l : Lt} {o : Obj} (hc : CM W w8 own p (n'.out 0) v8 ps8 mv ms a N') (hk : CK n' ms N') (hls : n'.ls = n.ls.drop i) (ho : w7.ownsRow W.heap.size 3 1 (.slice z n.ls.length zc) n.ls.length ((n.ls.map (·.nu)).map iv)) (hkw : ∀ k, (Value.slice z n.ls.length zc).ownBlock = some k → (own k).1 ≠ 1 ∧ k ≠ a) (hl : n'.ls[0]? = some l) (hb : l.bs = [(m : Int)]) (hkp : Kept (fun k => own k = (1, 1) ∨ own k = (1, 2)) w7 w8) : WE W ((w8.alloc o).setCell ⟨a, m, none⟩ (.int .i64 (N' m - 1))) own p n mv ms a z zc (i + 1) := by
  have h1 := ownN_kept ho hkp (fun k e e2 => (hkw k e).1 (by rcases e2 with e2 | e2 <;> rw [e2]))
  have h2 := ownN_kept h1 (kept_of_below (ba (Below.refl _ w8) o)) (fun k e hge => by have := (h1.lt k e).2; omega)
  have h3 := ownN_kept h2 (Kept.setCell (F := fun k => k = a) (w8.alloc o) (p := ⟨a, m, none⟩) rfl (.int .i64 (N' m - 1))) (fun k e f => (hkw k e).2 f)
  exact ⟨n'.out 0, v8, ps8, _, (hc.below (ba (Below.refl _ _) _)).num m _, hk.out hl hb, drop_erase hls, h3, hkw⟩
theorem WE.row {W wr : World} {own : Nat → Int × Int} {p : Nat} {n : Nt} {mv : Value} {ms : List Nat} {a : Nat} {z : Option Addr} {zc i : Nat} (h : WE W wr own p n mv ms a z zc i) (hl : n.ls.length ≤ 4096) : RowIn 1 ci wr (.slice z n.ls.length zc) (n.ls.map (·.nu)) := by
  obtain ⟨_, _, _, _, _, _, _, ho, _⟩ := h
  exact ints_in' hl ho
set_option maxHeartbeats 51200000 in
theorem counts_walk (W : World) (sa : Option Addr) (sc : Nat) (os : List O17) (eg en ef : Addr) (sg : List UInt8) (hS : Scr W (.slice sa os.length sc) os) (E : En3 W eg en ef) (hEG : Err W 2 sg eg) (h9 : 8 ≤ W.heap.size) :
    Calls Tryd.prog 4 #[.slice sa os.length sc] W fun e w' => e = .returned (.bool true) ∧ Below W.heap.size W w' := by
  obtain ⟨i0, hi, hz0, hz1, hz2⟩ := info_parts Tryd.info5
  have hie := mkHid (And.intro hi (And.intro hz0 (And.intro hz1 hz2)))
  clear hi hz0 hz1 hz2
  have HS := mkHid hS
  have HE := mkHid E
  have HEG := mkHid hEG
  have H9 := mkHid h9
  have HLS : Hid ((os.length : Int) ≤ 10000000000000) := mkHid (by have := hS.sz; omega)
  have hlo := HLS.out
  clear hS E hEG h9
  go_enter Tryd.func4, Tryd.ntmps4
  go_wp2_with (first
    | (go_at_call 9; refine (nalive W eg en ef sg HE.out HEG.out H9.out).mono ?_; rintro r w1 ⟨rfl, b1⟩; have HB1 := mkHid b1; clear b1)
    | (go_at_call 10; refine (nnew_is w1).mono ?_; rintro r w2 ⟨rfl, hw2⟩; have hb2 : Below w1.heap.size w1 w2 := (by rw [hw2]; exact ba (Below.refl _ _) _); have hnb := NB.new (fun _ => (0, 0)) 1 w1 (by decide) (fun _ _ => rfl); rw [← hw2] at hnb; obtain ⟨own1, ho1⟩ : ∃ o, o = (fun k => if k = w1.heap.size then ((1 : Int), (1 : Int)) else (0, 0)) := ⟨_, rfl⟩; rw [← ho1] at hnb; have HN0 := mkHid (And.intro hnb (And.intro ho1 hb2)); clear hw2 hb2 hnb ho1)
    | (refine wpList_alloc_z rfl 40 rfl (rnC 256 (fun _ => 0)) (zero_arr _) ?_))
  have HST0 : Hid (CI W ((w2.alloc (.cells (rnC 256 (fun _ => 0)) 40)).alloc (.cells #[.int .u8 0] 5)) w1.heap.size w2.heap.size 0 (.slice (some ⟨w2.heap.size + 1, 0, none⟩) 1 1)) := mkHid (by
    obtain ⟨hnb, ho1, hb2⟩ := HN0.out
    have hs1 := HB1.out.size
    have hs2 := hb2.size
    have hlt := hnb.lt
    have hoz : ∀ k, ¬ k = w1.heap.size → own1 k = (0, 0) := fun k hk => by rw [ho1]; simp only; rw [if_neg hk]
    refine ⟨own1, Nt.zero, _, [], [0], _, ⟨hnb.below (ba (ba (Below.refl _ _) _) _), fun k e => ?_, ?_, fun k e => ?_, (heap_alloc_old _ _ (by simp)).trans (heap_alloc_new w2 _), ⟨by rw [hoz _ (by omega)]; simp, by omega⟩, bt HB1.out (ba (ba hb2 _) _)⟩, CK.zero, Nat.le_refl _⟩
    · by_cases hk : k = w1.heap.size
      · omega
      · rw [hoz k hk] at e; simp at e
    · exact ⟨rfl, .inr ⟨w2.heap.size + 1, 1, #[.int .u8 0], rfl, by omega, by have := heap_alloc_new (w2.alloc (.cells (rnC 256 (fun _ => 0)) 40)) (.cells #[.int .u8 0] 5); simpa using this, Nat.le_refl _, by unfold maxLen; omega, rfl, rfl⟩⟩
    · simp [Value.ownBlock] at e
      subst e
      refine ⟨by rw [hoz _ (by omega)]; simp, by omega⟩)
  clear HN0 HB1
  generalize w1.heap.size = p at HST0 ⊢
  generalize w2.heap.size = a at HST0 ⊢
  go_loopw [5, 28] (fun mv iv' wr => ∃ (j : Nat), iv' = .int .i64 (j : Int) ∧ j ≤ os.length ∧ Hid (CI W wr p a j mv)) (fun _ iv' _ => os.length - (intOf iv').toNat)
  case atStart => exact ⟨0, rfl, Nat.zero_le _, HST0⟩
  case round =>
    clear HST0
    obtain ⟨j, rfl, hj, HI⟩ := hrel
    obtain ⟨own, n, v, ps, ms, N, hcm, hck, hnl⟩ := HI.out
    obtain ⟨za, c, rfl, hza⟩ := hcm.own hck
    have HZA := mkHid hza
    clear hza
    have HCM := mkHid hcm
    have HCK := mkHid hck
    have HNL := mkHid hnl
    clear hcm hck hnl HI
    by_cases hlt : j < os.length
    · obtain ⟨gg, off, y, rfl, hy, hat⟩ := HS.out.row.at HCM.out.bel j hlt
      have HIN := mkHid (HS.out.ins y (List.mem_of_getElem? hy))
      obtain ⟨kd, wh, fr, to, nn, yv, bs⟩ := y
      obtain ⟨xa, xc, rfl⟩ : ∃ a c, yv = .slice a bs.length c := HIN.out.rd.2.imp fun a h => h.imp fun c h => h.1
      have y0 := hat 0 _ (by omega) rfl
      have y1 := hat 1 _ (by omega) rfl
      have y2 := hat 2 _ (by omega) rfl
      have y3 := hat 3 _ (by omega) rfl
      have y4 := hat 4 _ (by omega) rfl
      have y5 := hat 5 _ (by omega) rfl
      simp only [Nat.add_zero] at y0
      have hji : (j : Int) < (os.length : Int) := by omega
      have HJ : Hid ((j : Int) ≤ 10000000000000) := mkHid (by omega)
      have hlast : (n.last : Int) ≤ 10000000000000 := by have := HNL.out; omega
      clear hat hy
      have hk : kd = 1 ∨ kd = 4 ∨ kd = 2 ∨ kd = 3 ∨ ((kd == 1) = false ∧ (kd == 4) = false ∧ (kd == 2) = false ∧ (kd == 3) = false) := by simp; omega
      rcases hk with rfl | rfl | rfl | rfl | ⟨h1, h2, h3, h4⟩
      · -- Send
        obtain ⟨X, ewx, hX⟩ := u8_ex nn
        have HX := mkHid hX
        have HC2 := mkHid (HCM.out.below (ba (ba (Below.refl _ wr) (.cells #[.int .i64 1, .int .i64 wh, .int .i64 fr, .int .i64 to, .int .i64 nn, .slice xa bs.length xc] 34)) (.cells #[.int .u8 (X : Int)] 5)))
        have HRD : Hid (Rd ((wr.alloc (.cells #[.int .i64 1, .int .i64 wh, .int .i64 fr, .int .i64 to, .int .i64 nn, .slice xa bs.length xc] 34)).alloc (.cells #[.int .u8 (X : Int)] 5)) (.slice (some ⟨wr.heap.size + 1, 0, none⟩) 1 1) [(X : Int)]) := mkHid (by have := rd_one0 (wr.alloc (.cells #[.int .i64 1, .int .i64 wh, .int .i64 fr, .int .i64 to, .int .i64 nn, .slice xa bs.length xc] 34)) X hX; simpa using this)
        have HY : Hid (∀ w3, Kept (fun k => own k = (1, 1) ∨ own k = (1, 2)) ((wr.alloc (.cells #[.int .i64 1, .int .i64 wh, .int .i64 fr, .int .i64 to, .int .i64 nn, .slice xa bs.length xc] 34)).alloc (.cells #[.int .u8 (X : Int)] 5)) w3 → w3.heap[wr.heap.size]? = some (.cells #[.int .i64 1, .int .i64 wh, .int .i64 fr, .int .i64 to, .int .i64 nn, .slice xa bs.length xc] 34 (0, 0))) := mkHid (fun w3 hk => (hk.block wr.heap.size (by simp; omega) (fun e => by have := HCM.out.nb.sz wr.heap.size (Nat.le_refl _); rw [this] at e; simp at e)).trans ((heap_alloc_old _ _ (by simp)).trans (heap_alloc_new wr _)))
        have HSN := mkHid (send_is own 1 ((wr.alloc (.cells #[.int .i64 1, .int .i64 wh, .int .i64 fr, .int .i64 to, .int .i64 nn, .slice xa bs.length xc] 34)).alloc (.cells #[.int .u8 (X : Int)] 5)) p v ps n HC2.out.nb 1 2 0 (.slice (some ⟨wr.heap.size + 1, 0, none⟩) 1 1) [(X : Int)] HRD.out (by simp) (fun w' hk => HRD.out.kept hk (fun k e f => (by simp [Value.ownBlock] at e; have := HCM.out.nb.lt; omega))) (by have := HNL.out; have := HJ.out; omega) en ef (HE.out.kept H9.out HC2.out.bel).n (HE.out.kept H9.out HC2.out.bel).f)
        go_wp2_with (first
          | (go_at_call 13; (with_reducible refine HSN.out.mono ?_); rintro r w3 (⟨_, rfl, b3⟩ | ⟨_, ⟨_, rfl, b3⟩ | ⟨_, rfl, own', v', ps', hr⟩⟩) <;> first | (have HC3 := mkHid (HC2.out.below b3); have HEND : Hid (CI W w3 p a (j + 1) (.slice za (n.last + 1) c)) := mkHid ⟨own, n, v, ps, ms, N, HC3.out, HCK.out, by have := HNL.out; omega⟩; clear b3) | (have HC3 := mkHid (HC2.out.net hr); have HY3 := mkHid (HY.out w3 hr.kp); obtain ⟨q1, q2⟩ := HC3.out.acell hX; have q3 := HCK.out.num HCM.out.nb.ok hX; have ewn : IntKind.i64.wrap (N X + 1) = N X + 1 := wfit (by omega) (by omega); have HC4 := mkHid (HC3.out.num X (N X + 1)); have HMR : Hid ((w3.setCell ⟨a, X, none⟩ (.int .i64 (N X + 1))).ownsRow W.heap.size 5 1 (.slice za (n.last + 1) c) (n.last + 1) (ms.map (fun m : Nat => Value.int .u8 (m : Int)))) := mkHid (by have := HC4.out.mr; rw [HCK.out.ml] at this; exact this); have HY4 := mkHid (((Kept.setCell (F := fun k => k = a) w3 (p := ⟨a, X, none⟩) rfl (.int .i64 (N X + 1))).block wr.heap.size (lt_of_heap HY3.out) (fun e => by have := lt_of_heap HCM.out.ar; omega)).trans HY3.out); have y4' := cell_of_block (i := 4) HY3.out rfl; have y4'' := cell_of_block (i := 4) HY4.out rfl; clear hr q3))
          | (at_builtin; refine wpList_append_src _ rfl (.tmp 58) (.tmp 62) 32 32 rfl W.heap.size 5 i0 Tryd.underlying32 hie.out.1 hie.out.2.1 hie.out.2.2.1 hie.out.2.2.2 _ (n.last + 1) (ms.map (fun m : Nat => Value.int .u8 (m : Int))) rfl (HMR.out.alloc _) _ 1 [.int .u8 (X : Int)] rfl (src_one' _ (X : Int) _ (by simp)) (by unfold maxLen; omega) (by omega) (by have := HC4.out.bel.size; simp at this ⊢; omega) ?_; intro v6 w6 ho6 hg6 hat6; have HEND := mkHid (CI.push (o := .cells #[.int .u8 (X : Int)] 5) (l := ⟨0, 1, 2, [(X : Int)]⟩) (m := X) HC4.out HCK.out HX.out rfl rfl rfl HNL.out (by rw [HCK.out.ml]; exact ho6) hg6 hat6); clear ho6 hg6 hat6))
        all_goals go_roundw
        all_goals first
          | exact ⟨j + 1, by go_num, by omega, mkHid HEND.out⟩
          | (simp [intOf]; omega)
      · -- Copy
        have HC2 := mkHid (HCM.out.below (ba (Below.refl _ wr) (.cells #[.int .i64 4, .int .i64 wh, .int .i64 fr, .int .i64 to, .int .i64 nn, .slice xa bs.length xc] 34)))
        have HB2 : Hid ((wr.alloc (.cells #[.int .i64 4, .int .i64 wh, .int .i64 fr, .int .i64 to, .int .i64 nn, .slice xa bs.length xc] 34)).heap[wr.heap.size]? = some (.cells #[.int .i64 4, .int .i64 wh, .int .i64 fr, .int .i64 to, .int .i64 nn, .slice xa bs.length xc] 34 (0, 0))) := mkHid (heap_alloc_new wr _)
        have HNT := mkHid (nth_is own 1 (wr.alloc (.cells #[.int .i64 4, .int .i64 wh, .int .i64 fr, .int .i64 to, .int .i64 nn, .slice xa bs.length xc] 34)) p v ps n HC2.out.nb nn)
        have HAL : Hid (¬ wr.heap.size = a) := mkHid (by have := lt_of_heap HCM.out.ar; omega)
        go_wp2_with (first
          | (go_at_call 14; (with_reducible refine HNT.out.mono ?_); rintro r w3 ⟨hw, (⟨_, rfl⟩ | ⟨J, l, hl, _, rfl⟩)⟩ <;> obtain rfl := hw.symm <;> first | (have HLL := mkHid hl; obtain ⟨hf, ht, Q, m, hQ, hm, hb⟩ := HCK.out.le l (List.mem_of_getElem? hl); obtain ⟨nu, fr', to', bs'⟩ := l; simp only at hf ht hQ hb; subst hf ht hQ hb; obtain ⟨b, hix, hmc⟩ := HC2.out.mark HCK.out hm; have HMC := mkHid hmc; have hm256 := HCK.out.mb m (List.mem_of_getElem? hm); have HM256 := mkHid hm256; have g1 := hmc _ _ _ _ _ _ HC2.out; obtain ⟨q1, q2⟩ := HC2.out.acell hm256; have q3 := HCK.out.num HCM.out.nb.ok hm256; clear g1 q1 q2; clear hl hm hmc q3) | (have HEND : Hid (CI W (wr.alloc (.cells #[.int .i64 4, .int .i64 wh, .int .i64 fr, .int .i64 to, .int .i64 nn, .slice xa bs.length xc] 34)) p a (j + 1) (.slice za (n.last + 1) c)) := mkHid ⟨own, n, v, ps, ms, N, HC2.out, HCK.out, by have := HNL.out; omega⟩))
          | (go_at_call 15; have HN := copy_is own 1 (wr.alloc (.cells #[.int .i64 4, .int .i64 wh, .int .i64 fr, .int .i64 to, .int .i64 nn, .slice xa bs.length xc] 34)) p v ps n HC2.out.nb (Q : Int) (by have := HNL.out; have := HJ.out; omega) eg ef (HE.out.kept H9.out HC2.out.bel).g (HE.out.kept H9.out HC2.out.bel).f; (with_reducible refine HN.mono ?_); clear HN; rintro r w4 (⟨hno, _, _⟩ | ⟨K, l, wz, hfK, hlK, bz, hadd⟩) <;> first | exact (found_no HCM.out.nb.ok HLL.out rfl hno).elim | skip; obtain rfl := found HCM.out.nb.ok HLL.out rfl hfK; obtain rfl := Option.some.inj (hlK.symm.trans HLL.out); rcases hadd with ⟨_, rfl, b3⟩ | ⟨_, rfl, own', v', ps', hr'⟩ <;> first | (have HEND : Hid (CI W w4 p a (j + 1) (.slice za (n.last + 1) c)) := mkHid ⟨own, n, v, ps, ms, N, HC2.out.below (bt bz b3), HCK.out, by have := HNL.out; omega⟩; clear b3 bz hfK hlK) | (have hr := (HC2.out.nb.below' bz).trans hr'; have HC3 := mkHid (HC2.out.net hr); have g3 := HMC.out _ _ _ _ _ _ HC3.out; obtain ⟨q1, q2⟩ := HC3.out.acell HM256.out; have q3 := HCK.out.num HCM.out.nb.ok HM256.out; have ewn : IntKind.i64.wrap (N m + 1) = N m + 1 := wfit (by omega) (by omega); have HC4 := mkHid (HC3.out.num m (N m + 1)); have g4 := HMC.out _ _ _ _ _ _ HC4.out; have HMR : Hid ((w4.setCell ⟨a, m, none⟩ (.int .i64 (N m + 1))).ownsRow W.heap.size 5 1 (.slice za (n.last + 1) c) (n.last + 1) (ms.map (fun m : Nat => Value.int .u8 (m : Int)))) := mkHid (by have := HC4.out.mr; rw [HCK.out.ml] at this; exact this); clear hr hr' bz q3 hfK hlK))
          | (at_builtin; refine wpList_append_src _ rfl (.tmp 100) (.tmp 105) 32 32 rfl W.heap.size 5 i0 Tryd.underlying32 hie.out.1 hie.out.2.1 hie.out.2.2.1 hie.out.2.2.2 _ (n.last + 1) (ms.map (fun m : Nat => Value.int .u8 (m : Int))) rfl (HMR.out.alloc _) _ 1 [.int .u8 (m : Int)] rfl (src_one' _ (m : Int) _ (by simp)) (by unfold maxLen; omega) (by omega) (by have := HC4.out.bel.size; simp at this ⊢; omega) ?_; intro v6 w6 ho6 hg6 hat6; have HEND := mkHid (CI.push (o := .cells #[.int .u8 (m : Int)] 5) (m := m) HC4.out HCK.out HM256.out rfl rfl rfl HNL.out (by rw [HCK.out.ml]; exact ho6) hg6 hat6); clear ho6 hg6 hat6))
        all_goals go_roundw
        all_goals first
          | exact ⟨j + 1, by go_num, by omega, mkHid HEND.out⟩
          | (simp [intOf]; omega)
      · -- Deliver
        have HC2 := mkHid (HCM.out.below (ba (Below.refl _ wr) (.cells #[.int .i64 2, .int .i64 wh, .int .i64 fr, .int .i64 to, .int .i64 nn, .slice xa bs.length xc] 34)))
        have HB2 : Hid ((wr.alloc (.cells #[.int .i64 2, .int .i64 wh, .int .i64 fr, .int .i64 to, .int .i64 nn, .slice xa bs.length xc] 34)).heap[wr.heap.size]? = some (.cells #[.int .i64 2, .int .i64 wh, .int .i64 fr, .int .i64 to, .int .i64 nn, .slice xa bs.length xc] 34 (0, 0))) := mkHid (heap_alloc_new wr _)
        have HNT := mkHid (nth_is own 1 (wr.alloc (.cells #[.int .i64 2, .int .i64 wh, .int .i64 fr, .int .i64 to, .int .i64 nn, .slice xa bs.length xc] 34)) p v ps n HC2.out.nb nn)
        have HAL : Hid (¬ wr.heap.size = a) := mkHid (by have := lt_of_heap HCM.out.ar; omega)
        go_wp2_with (first
          | (go_at_call 14; (with_reducible refine HNT.out.mono ?_); rintro r w3 ⟨hw, (⟨_, rfl⟩ | ⟨J, l, hl, _, rfl⟩)⟩ <;> obtain rfl := hw.symm <;> first | (have HLL := mkHid hl; obtain ⟨hf, ht, Q, m, hQ, hm, hb⟩ := HCK.out.le l (List.mem_of_getElem? hl); obtain ⟨nu, fr', to', bs'⟩ := l; simp only at hf ht hQ hb; subst hf ht hQ hb; obtain ⟨b, hix, hmc⟩ := HC2.out.mark HCK.out hm; have HMC := mkHid hmc; have hm256 := HCK.out.mb m (List.mem_of_getElem? hm); have HM256 := mkHid hm256; have g1 := hmc _ _ _ _ _ _ HC2.out; obtain ⟨q1, q2⟩ := HC2.out.acell hm256; have q3 := HCK.out.num HCM.out.nb.ok hm256; have ewn : IntKind.i64.wrap (N m - 1) = N m - 1 := wfit (by omega) (by omega); have HC4 := mkHid (HC2.out.num m (N m - 1)); have HB4 : Hid (((wr.alloc (.cells #[.int .i64 2, .int .i64 wh, .int .i64 fr, .int .i64 to, .int .i64 nn, .slice xa bs.length xc] 34)).setCell ⟨a, m, none⟩ (.int .i64 (N m - 1))).heap[wr.heap.size]? = some (.cells #[.int .i64 2, .int .i64 wh, .int .i64 fr, .int .i64 to, .int .i64 nn, .slice xa bs.length xc] 34 (0, 0))) := mkHid (((Kept.setCell (F := fun k => k = a) (wr.alloc (.cells #[.int .i64 2, .int .i64 wh, .int .i64 fr, .int .i64 to, .int .i64 nn, .slice xa bs.length xc] 34)) (p := ⟨a, m, none⟩) rfl (.int .i64 (N m - 1))).block wr.heap.size (lt_of_heap HB2.out) HAL.out).trans HB2.out); have z4 := cell_of_block (i := 0) HB4.out rfl; clear hl hm hmc q3) | (have HEND : Hid (CI W (wr.alloc (.cells #[.int .i64 2, .int .i64 wh, .int .i64 fr, .int .i64 to, .int .i64 nn, .slice xa bs.length xc] 34)) p a (j + 1) (.slice za (n.last + 1) c)) := mkHid ⟨own, n, v, ps, ms, N, HC2.out, HCK.out, by have := HNL.out; omega⟩))
          | (go_at_call 17; have HN := deliver_is own 1 ((wr.alloc (.cells #[.int .i64 2, .int .i64 wh, .int .i64 fr, .int .i64 to, .int .i64 nn, .slice xa bs.length xc] 34)).setCell ⟨a, m, none⟩ (.int .i64 (N m - 1))) p v ps n HC4.out.nb (Q : Int) eg (HE.out.kept H9.out HC4.out.bel).g; (with_reducible refine HN.mono ?_); clear HN; rintro r w5 (⟨hno, _, _⟩ | ⟨K, lp, v', hfK, hlp, rfl, hrd, hr⟩) <;> first | exact (found_no HCM.out.nb.ok HLL.out rfl hno).elim | skip; obtain rfl := found HCM.out.nb.ok HLL.out rfl hfK; have hl1 := Option.some.inj ((HC4.out.nb.ls hlp).symm.trans HLL.out); obtain ⟨lt, xa5, xc5⟩ := lp; simp only at hl1; subst hl1; have HC5 := mkHid (HC4.out.net hr); have HRD := mkHid hrd; have HLP := mkHid hlp; clear hr hfK hrd hlp))
        · all_goals go_roundw
          all_goals first
            | exact ⟨j + 1, by go_num, by omega, mkHid HEND.out⟩
            | (simp [intOf]; omega)
        · have hrd5 := HRD.out
          obtain ⟨_, a5, c5, e5, _, _, hr5⟩ := hrd5
          simp only [Value.slice.injEq] at e5
          obtain ⟨rfl, _, rfl⟩ := e5
          obtain ⟨b5, off5, rfl, _, hc5⟩ := hr5 (by simp)
          have h50 : w5.cell? ⟨b5, off5, none⟩ = some (.int .u8 (m : Int)) := hc5 0 (by simp)
          have g5 := HMC.out _ _ _ _ _ _ HC5.out
          clear hr5 hc5 g1 q1 q2 z4
          go_quiet (fail)
          go_wp2
          have HEND : Hid (CI W ((w5.alloc (oL (⟨(Q : Int), 1, 2, [(m : Int)]⟩, some ⟨b5, off5, none⟩, xc5))).drewN nq) p a (j + 1) (.slice za (n.last + 1) c)) := mkHid ⟨own, _, v', _, ms, _, HC5.out.below (drewN_below17 (ba (Below.refl _ _) _) _), HCK.out.out HLL.out rfl, by have := HNL.out; simp only [Nt.out]; omega⟩
          all_goals go_roundw
          all_goals first
            | exact ⟨j + 1, by go_num, by omega, mkHid HEND.out⟩
            | (simp [intOf]; omega)
      · -- Drop
        have HC2 := mkHid (HCM.out.below (ba (Below.refl _ wr) (.cells #[.int .i64 3, .int .i64 wh, .int .i64 fr, .int .i64 to, .int .i64 nn, .slice xa bs.length xc] 34)))
        have HB2 : Hid ((wr.alloc (.cells #[.int .i64 3, .int .i64 wh, .int .i64 fr, .int .i64 to, .int .i64 nn, .slice xa bs.length xc] 34)).heap[wr.heap.size]? = some (.cells #[.int .i64 3, .int .i64 wh, .int .i64 fr, .int .i64 to, .int .i64 nn, .slice xa bs.length xc] 34 (0, 0))) := mkHid (heap_alloc_new wr _)
        have HNT := mkHid (nth_is own 1 (wr.alloc (.cells #[.int .i64 3, .int .i64 wh, .int .i64 fr, .int .i64 to, .int .i64 nn, .slice xa bs.length xc] 34)) p v ps n HC2.out.nb nn)
        have HAL : Hid (¬ wr.heap.size = a) := mkHid (by have := lt_of_heap HCM.out.ar; omega)
        go_wp2_with (first
          | (go_at_call 14; (with_reducible refine HNT.out.mono ?_); rintro r w3 ⟨hw, (⟨_, rfl⟩ | ⟨J, l, hl, _, rfl⟩)⟩ <;> obtain rfl := hw.symm <;> first | (have HLL := mkHid hl; obtain ⟨hf, ht, Q, m, hQ, hm, hb⟩ := HCK.out.le l (List.mem_of_getElem? hl); obtain ⟨nu, fr', to', bs'⟩ := l; simp only at hf ht hQ hb; subst hf ht hQ hb; obtain ⟨b, hix, hmc⟩ := HC2.out.mark HCK.out hm; have HMC := mkHid hmc; have hm256 := HCK.out.mb m (List.mem_of_getElem? hm); have HM256 := mkHid hm256; have g1 := hmc _ _ _ _ _ _ HC2.out; obtain ⟨q1, q2⟩ := HC2.out.acell hm256; have q3 := HCK.out.num HCM.out.nb.ok hm256; have ewn : IntKind.i64.wrap (N m - 1) = N m - 1 := wfit (by omega) (by omega); have HC4 := mkHid (HC2.out.num m (N m - 1)); have HB4 : Hid (((wr.alloc (.cells #[.int .i64 3, .int .i64 wh, .int .i64 fr, .int .i64 to, .int .i64 nn, .slice xa bs.length xc] 34)).setCell ⟨a, m, none⟩ (.int .i64 (N m - 1))).heap[wr.heap.size]? = some (.cells #[.int .i64 3, .int .i64 wh, .int .i64 fr, .int .i64 to, .int .i64 nn, .slice xa bs.length xc] 34 (0, 0))) := mkHid (((Kept.setCell (F := fun k => k = a) (wr.alloc (.cells #[.int .i64 3, .int .i64 wh, .int .i64 fr, .int .i64 to, .int .i64 nn, .slice xa bs.length xc] 34)) (p := ⟨a, m, none⟩) rfl (.int .i64 (N m - 1))).block wr.heap.size (lt_of_heap HB2.out) HAL.out).trans HB2.out); have z4 := cell_of_block (i := 0) HB4.out rfl; clear hl hm hmc q3) | (have HEND : Hid (CI W (wr.alloc (.cells #[.int .i64 3, .int .i64 wh, .int .i64 fr, .int .i64 to, .int .i64 nn, .slice xa bs.length xc] 34)) p a (j + 1) (.slice za (n.last + 1) c)) := mkHid ⟨own, n, v, ps, ms, N, HC2.out, HCK.out, by have := HNL.out; omega⟩))
          | (go_at_call 16; have HN := drop_is own 1 ((wr.alloc (.cells #[.int .i64 3, .int .i64 wh, .int .i64 fr, .int .i64 to, .int .i64 nn, .slice xa bs.length xc] 34)).setCell ⟨a, m, none⟩ (.int .i64 (N m - 1))) p v ps n HC4.out.nb (Q : Int) eg (HE.out.kept H9.out HC4.out.bel).g; (with_reducible refine HN.mono ?_); clear HN; rintro r w5 (⟨hno, _, _⟩ | ⟨K, v', hfK, rfl, hr⟩) <;> first | exact (found_no HCM.out.nb.ok HLL.out rfl hno).elim | skip; obtain rfl := found HCM.out.nb.ok HLL.out rfl hfK; have HEND : Hid (CI W w5 p a (j + 1) (.slice za (n.last + 1) c)) := mkHid ⟨own, _, v', _, ms, _, HC4.out.net hr, HCK.out.out HLL.out rfl, by have := HNL.out; simp only [Nt.out]; omega⟩; clear hr hfK))
        all_goals go_roundw
        all_goals first
          | exact ⟨j + 1, by go_num, by omega, mkHid HEND.out⟩
          | (simp [intOf]; omega)
      · have HC2 := mkHid (HCM.out.below (ba (Below.refl _ wr) (.cells #[.int .i64 kd, .int .i64 wh, .int .i64 fr, .int .i64 to, .int .i64 nn, .slice xa bs.length xc] 34)))
        go_wp2
        go_roundw
        case rel => exact ⟨j + 1, by go_num, by omega, mkHid ⟨own, n, v, ps, ms, N, HC2.out, HCK.out, by have := HNL.out; omega⟩⟩
        case measure => simp [intOf]; omega
    · obtain rfl : j = os.length := by omega
      have h4096 := HCM.out.nb.ok.len
      have HWT := mkHid (waiting_is own 1 wr p v ps n HCM.out.nb)
      have M1 : Hid True := mkHid trivial
      go_wp2_with (go_at_call 18; (with_reducible refine HWT.out.mono ?_); rintro r w5 ⟨v5, rfl, ho5, b5⟩; obtain ⟨z5, zc5, rfl⟩ := own_sh' ho5; have HW0 := mkHid (WE.zero HCM.out HCK.out b5 ho5); clear ho5 b5)
      go_loopw [161] (fun iv' w => ∃ (i : Nat), iv' = .int .i64 (i : Int) ∧ i ≤ n.ls.length ∧ Hid (WE W w own p n (.slice za (n.last + 1) c) ms a z5 zc5 i)) (fun iv' _ => n.ls.length - (intOf iv').toNat)
      case atStart => exact ⟨0, rfl, Nat.zero_le _, HW0⟩
      case round =>
        clear HW0
        obtain ⟨i, rfl, hi, HI⟩ := hrel
        rename World => w7
        by_cases hilt : i < n.ls.length
        · obtain ⟨bq, oq, x, rfl, hx, hat⟩ := (HI.out.row h4096).at (Below.refl _ _) i (by rw [List.length_map]; exact hilt)
          have y0 := hat 0 _ (by omega) rfl
          simp only [Nat.add_zero, Nat.mul_one] at y0
          obtain ⟨n', v', ps', N', hcm, hck, hls, how, hkw⟩ := HI.out
          rw [List.getElem?_map] at hx
          obtain ⟨l, hl, rfl⟩ := Option.map_eq_some_iff.mp hx
          have hl0 : n'.ls[0]? = some l := by rw [hls]; exact drop_head hl
          obtain ⟨hf, ht, Q, m, hQ, hm, hb⟩ := hck.le l (List.mem_of_getElem? hl0)
          obtain ⟨nu, fr', to', bs'⟩ := l
          simp only at hf ht hQ hb
          subst hf ht hQ hb
          have HC0 := mkHid (And.intro hcm (And.intro hck (And.intro hls (And.intro how hkw))))
          have HL0 := mkHid hl0
          have hm256 := hck.mb m (List.mem_of_getElem? hm)
          have HM256 := mkHid hm256
          have q3 := hck.num hcm.nb.ok hm256
          have ewn : IntKind.i64.wrap (N' m - 1) = N' m - 1 := wfit (by omega) (by omega)
          have hii : (i : Int) < (n.ls.length : Int) := by omega
          clear hcm hck hls how hkw hl0 hx hl hat
          go_wp2_with (go_at_call 17; have HN := deliver_is own 1 w7 p v' ps' n' HC0.out.1.nb (Q : Int) eg (HE.out.kept H9.out HC0.out.1.bel).g; (with_reducible refine HN.mono ?_); clear HN; rintro r w8 (⟨hno, _, _⟩ | ⟨K, lp, v8, hfK, hlp, rfl, hrd, hr⟩) <;> first | exact (found_no HC0.out.1.nb.ok HL0.out rfl hno).elim | skip; obtain rfl := found HC0.out.1.nb.ok HL0.out rfl hfK; have hl1 := Option.some.inj ((HC0.out.1.nb.ls hlp).symm.trans HL0.out); obtain ⟨lt, xa5, xc5⟩ := lp; simp only at hl1; subst hl1; have HC8 := mkHid (HC0.out.1.net hr); have HKP := mkHid hr.kp; obtain ⟨_, a5, c5, e5, _, _, hr5⟩ := hrd; simp only [Value.slice.injEq] at e5; obtain ⟨rfl, _, rfl⟩ := e5; obtain ⟨b5, off5, rfl, _, hc5⟩ := hr5 (by simp); have h50 : w8.cell? ⟨b5, off5, none⟩ = some (.int .u8 (m : Int)) := hc5 0 (by simp); obtain ⟨q1, q2⟩ := HC8.out.acell HM256.out; clear hr hfK hlp hr5 hc5)
          exact ⟨⟨i + 1, by go_num, by omega, mkHid (WE.step HC8.out HC0.out.2.1 HC0.out.2.2.1 HC0.out.2.2.2.1 HC0.out.2.2.2.2 HL0.out rfl HKP.out)⟩, by simp [intOf]; omega⟩
        · obtain rfl : i = n.ls.length := by omega
          obtain ⟨n', v', ps', N', hcm, hck, hls, how, hkw⟩ := HI.out
          have hn0 : n'.ls = [] := by rw [hls, List.drop_length]
          have hz : rnC 256 N' = rnC 256 (fun _ => 0) := rnC_congr (fun k hk => by rw [hck.cn k hk, hn0]; rfl)
          have har := hcm.ar
          rw [hz] at har
          have HBL := mkHid hcm.bel
          have heq := fun w => eql_arr w (fun _ => 0)
          clear hcm hck hls how hkw hn0 hz HI
          go_wp2_with (first
            | (refine wpList_load_row rfl 40 (.tmp 4) rfl a rfl 40 (rnC 256 (fun _ => 0)) (0, 0) _ har Tryd.underlying40 rfl (by rw [rnC_size]; exact size_arr) ?_)
            | (refine wpList_build_arr rfl rfl ?_))
          go_ret
          exact ⟨rfl, HBL.out⟩
end Go.Proofs.YtaiklaipdocdmaaDoor
