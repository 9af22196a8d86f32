import Derived.Test.YtjhekemgcmhjoaaGreatDoorTrF
import Derived.BigQuiet
/- The document's SameNode, SameNodes of lists that are the same. -/
namespace Go.Proofs.YtjhekemgcmhjoaaGreatDoor
open Go.ChangeShapes Go.WideShapes Go.ChangeAt Go.RowKit
set_option maxRecDepth 100000
attribute [local go_sem] World.cell?_alloc_some frozen_alloc_some

theorem drewN_below {W w : World} (h : Below W.heap.size W w) (n : Nat) : Below W.heap.size W (w.drewN n) := ⟨h.os, h.tape, h.output, h.size, h.block⟩
set_option maxHeartbeats 6400000 in
theorem same_node (w : World) (n : Nd) (a1 a2 : Option Addr) (c1 c2 : Nat) (h1 : Tks w (.slice a1 n.ts.length c1) n.ts) (h2 : Tks w (.slice a2 n.ts.length c2) n.ts) :
    Calls Tryz.prog 19 #[vNp (n, a1, c1), vNp (n, a2, c2)] w fun e w' => e = .returned (.bool true) ∧ Below w.heap.size w w' := by
  have hl : (n.ts.length : Int) ≤ 9223372036854775807 := by obtain ⟨_, _, _, hl, _⟩ := h1; exact hl
  have H1 := mkHid h1
  have H2 := mkHid h2
  clear h1 h2
  obtain ⟨id, pa, ⟨k, q, t⟩, po, ts⟩ := n
  simp only at hl H1 H2 ⊢
  obtain ⟨W1, hW1⟩ : ∃ W1, W1 = (w.alloc (.cells #[.int .i64 id, .int .i64 pa, .int .i64 k, .int .i64 q, .int .i64 t, .int .i64 po, .slice a1 ts.length c1] 39)).alloc (.cells #[.int .i64 id, .int .i64 pa, .int .i64 k, .int .i64 q, .int .i64 t, .int .i64 po, .slice a2 ts.length c2] 39) := ⟨_, rfl⟩
  have HB1 : Hid (Below w.heap.size w W1) := mkHid (by rw [hW1]; exact ba (ba (Below.refl _ _) _) _)
  have HC1 : Hid (W1.heap[w.heap.size]? = some (.cells #[.int .i64 id, .int .i64 pa, .int .i64 k, .int .i64 q, .int .i64 t, .int .i64 po, .slice a1 ts.length c1] 39 (0, 0))) := mkHid (by rw [hW1]; exact (heap_alloc_old _ _ (by simp)).trans (heap_alloc_new w _))
  have HC2 : Hid (W1.heap[w.heap.size + 1]? = some (.cells #[.int .i64 id, .int .i64 pa, .int .i64 k, .int .i64 q, .int .i64 t, .int .i64 po, .slice a2 ts.length c2] 39 (0, 0))) := mkHid (by
    rw [hW1]
    have := heap_alloc_new (w.alloc (.cells #[.int .i64 id, .int .i64 pa, .int .i64 k, .int .i64 q, .int .i64 t, .int .i64 po, .slice a1 ts.length c1] 39)) (.cells #[.int .i64 id, .int .i64 pa, .int .i64 k, .int .i64 q, .int .i64 t, .int .i64 po, .slice a2 ts.length c2] 39)
    simpa using this)
  go_enter Tryz.func19, Tryz.ntmps19
  go_wp2
  rw [← hW1]
  clear hW1
  go_loopw [44] (fun iv wr => ∃ j : Nat, iv = .int .i64 (j : Int) ∧ j ≤ ts.length ∧ Hid (Below W1.heap.size W1 wr)) (fun iv _ => ts.length - (intOf iv).toNat)
  case atStart => exact ⟨0, rfl, Nat.zero_le _, mkHid (Below.refl _ _)⟩
  case round =>
    obtain ⟨j, rfl, hj, HB⟩ := hrel
    have x6 : wr.cell? ⟨w.heap.size, 6, none⟩ = some (.slice a1 ts.length c1) := kc (cell_of_block (i := 6) HC1.out rfl) HB.out
    have y6 : wr.cell? ⟨w.heap.size + 1, 6, none⟩ = some (.slice a2 ts.length c2) := kc (cell_of_block (i := 6) HC2.out rfl) HB.out
    by_cases hlt : j < ts.length
    · obtain ⟨b1, o1, c, p, d, s, rfl, e1, r0, r1, r2, r3⟩ := H1.out.at (bt HB1.out HB.out) j hlt
      obtain ⟨b2, o2, c', p', d', s', rfl, e2, s0, s1, s2, s3⟩ := H2.out.at (bt HB1.out HB.out) j hlt
      rw [e1] at e2
      simp at e2
      obtain ⟨rfl, rfl, rfl, rfl⟩ := e2
      have hji : (j : Int) < ts.length := by omega
      clear e1
      go_wp2
      go_quiet (fail)
      have HD := mkHid (drewN_below HB.out nq)
      go_wp2
      go_roundw
      case rel => exact ⟨j + 1, by go_num, hlt, HD⟩
      case measure => simp [intOf]; omega
    · obtain rfl : j = ts.length := by omega
      go_wp2
      go_ret
      exact ⟨rfl, bt HB1.out HB.out⟩
theorem Nds.node {w w' : World} {a : Option Addr} {l cap : Nat} {ps : List Np} (h : Nds w (.slice a l cap) ps) (hb : Below w.heap.size w w') (i : Nat) (hi : i < ps.length) : ∃ b off n ta tc, a = some ⟨b, off, none⟩ ∧ ps[i]? = some (n, ta, tc) ∧ Tks w' (.slice ta n.ts.length tc) n.ts ∧ w'.cell? ⟨b, off + i * 7, none⟩ = some (.int .i64 n.id) ∧ w'.cell? ⟨b, off + i * 7 + 1, none⟩ = some (.int .i64 n.pa) ∧ w'.cell? ⟨b, off + i * 7 + 2, none⟩ = some (.int .i64 n.sv.1) ∧ w'.cell? ⟨b, off + i * 7 + 3, none⟩ = some (.int .i64 n.sv.2.1) ∧ w'.cell? ⟨b, off + i * 7 + 4, none⟩ = some (.int .i64 n.sv.2.2) ∧ w'.cell? ⟨b, off + i * 7 + 5, none⟩ = some (.int .i64 n.po) ∧ w'.cell? ⟨b, off + i * 7 + 6, none⟩ = some (.slice ta n.ts.length tc) := by
  obtain ⟨b, off, x, ha, hx, hc⟩ := h.row.at hb i hi
  obtain ⟨n, ta, tc⟩ := x
  exact ⟨b, off, n, ta, tc, ha, hx, (h.tk _ (List.mem_of_getElem? hx)).1.below hb, seven hc⟩
set_option maxHeartbeats 6400000 in
theorem same_nodes (w : World) (a1 a2 : Option Addr) (c1 c2 : Nat) (ps qs : List Np) (h1 : Nds w (.slice a1 ps.length c1) ps) (h2 : Nds w (.slice a2 qs.length c2) qs) (he : nds ps = nds qs) :
    Calls Tryz.prog 22 #[.slice a1 ps.length c1, .slice a2 qs.length c2] w fun e w' => e = .returned (.bool true) ∧ Below w.heap.size w w' := by
  have hl : (ps.length : Int) ≤ 9223372036854775807 := by obtain ⟨_, _, _, _, hl, _⟩ := h1.row; exact hl
  have hpq : ps.length = qs.length := by have := congrArg List.length he; simpa using this
  have H1 := mkHid h1
  have H2 := mkHid h2
  have HE := mkHid he
  clear h1 h2 he
  rw [← hpq] at H2 ⊢
  have HPQ := mkHid hpq
  clear hpq
  go_enter Tryz.func22, Tryz.ntmps22
  go_wp2
  go_loopw [13] (fun iv wr => ∃ j : Nat, iv = .int .i64 (j : Int) ∧ j ≤ ps.length ∧ Hid (Below w.heap.size w wr)) (fun iv _ => ps.length - (intOf iv).toNat)
  case atStart => exact ⟨0, rfl, Nat.zero_le _, mkHid (Below.refl _ _)⟩
  case round =>
    obtain ⟨j, rfl, hj, HB⟩ := hrel
    by_cases hlt : j < ps.length
    · obtain ⟨b1, o1, n, t1, k1, rfl, e1, T1, r0, r1, r2, r3, r4, r5, r6⟩ := H1.out.node HB.out j hlt
      obtain ⟨b2, o2, n2, t2, k2, rfl, e2, T2, s0, s1, s2, s3, s4, s5, s6⟩ := H2.out.node HB.out j (by have := HPQ.out; omega)
      obtain rfl : n = n2 := by
        have q1 := nds_at e1
        have q2 := nds_at e2
        rw [HE.out, q2] at q1
        simpa using q1.symm
      have hji : (j : Int) < ps.length := by omega
      have HC : Hid (∀ W, Below wr.heap.size wr W → Calls Tryz.prog 19 #[vNp (n, t1, k1), vNp (n, t2, k2)] W fun e w' => e = .returned (.bool true) ∧ Below W.heap.size W w') := mkHid (fun W hW => same_node W n t1 t2 k1 k2 (T1.below hW) (T2.below hW))
      obtain ⟨id, pa, ⟨k, q, t⟩, po, ts⟩ := n
      simp only at r0 r1 r2 r3 r4 r5 r6 s0 s1 s2 s3 s4 s5 s6
      clear e1 e2 T1 T2
      go_wp2
      go_region_held3 (fun w' => w'.cell? ⟨b1, o1 + j * 7, none⟩ = some (.int .i64 id) ∧ w'.cell? ⟨b1, o1 + j * 7 + 1, none⟩ = some (.int .i64 pa) ∧ w'.cell? ⟨b1, o1 + j * 7 + 2, none⟩ = some (.int .i64 k) ∧ w'.cell? ⟨b1, o1 + j * 7 + 3, none⟩ = some (.int .i64 q) ∧ w'.cell? ⟨b1, o1 + j * 7 + 4, none⟩ = some (.int .i64 t) ∧ w'.cell? ⟨b1, o1 + j * 7 + 5, none⟩ = some (.int .i64 po) ∧ w'.cell? ⟨b1, o1 + j * 7 + 6, none⟩ = some (.slice t1 ts.length k1) ∧ w'.cell? ⟨b2, o2 + j * 7, none⟩ = some (.int .i64 id) ∧ w'.cell? ⟨b2, o2 + j * 7 + 1, none⟩ = some (.int .i64 pa) ∧ w'.cell? ⟨b2, o2 + j * 7 + 2, none⟩ = some (.int .i64 k) ∧ w'.cell? ⟨b2, o2 + j * 7 + 3, none⟩ = some (.int .i64 q) ∧ w'.cell? ⟨b2, o2 + j * 7 + 4, none⟩ = some (.int .i64 t) ∧ w'.cell? ⟨b2, o2 + j * 7 + 5, none⟩ = some (.int .i64 po) ∧ w'.cell? ⟨b2, o2 + j * 7 + 6, none⟩ = some (.slice t2 ts.length k2)) (go_keep) (first | (go_at_call 19; (with_reducible refine (HC.out wr.drew (Below.refl _ wr).drew).mono ?_); rintro e w5 ⟨rfl, b5⟩; have HB5 : Hid (Below wr.heap.size wr w5) := mkHid ((Below.refl wr.heap.size wr).drew.trans b5); have x0 := kc (w := wr.drew) (show wr.drew.cell? _ = some _ from r0) b5; have x1 := kc (w := wr.drew) (show wr.drew.cell? _ = some _ from r1) b5; have x2 := kc (w := wr.drew) (show wr.drew.cell? _ = some _ from r2) b5; have x3 := kc (w := wr.drew) (show wr.drew.cell? _ = some _ from r3) b5; have x4 := kc (w := wr.drew) (show wr.drew.cell? _ = some _ from r4) b5; have x5 := kc (w := wr.drew) (show wr.drew.cell? _ = some _ from r5) b5; have x6 := kc (w := wr.drew) (show wr.drew.cell? _ = some _ from r6) b5; have y0 := kc (w := wr.drew) (show wr.drew.cell? _ = some _ from s0) b5; have y1 := kc (w := wr.drew) (show wr.drew.cell? _ = some _ from s1) b5; have y2 := kc (w := wr.drew) (show wr.drew.cell? _ = some _ from s2) b5; have y3 := kc (w := wr.drew) (show wr.drew.cell? _ = some _ from s3) b5; have y4 := kc (w := wr.drew) (show wr.drew.cell? _ = some _ from s4) b5; have y5 := kc (w := wr.drew) (show wr.drew.cell? _ = some _ from s5) b5; have y6 := kc (w := wr.drew) (show wr.drew.cell? _ = some _ from s6) b5; clear b5))
      go_wp2
      go_roundw
      case rel => exact ⟨j + 1, by go_num, hlt, mkHid (bt HB.out HB5.out)⟩
      case measure => simp [intOf]; omega
    · obtain rfl : j = ps.length := by omega
      go_wp2
      go_ret
      exact ⟨rfl, HB.out⟩
end Go.Proofs.YtjhekemgcmhjoaaGreatDoor
