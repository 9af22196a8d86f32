import Derived.Test.YtaiklaipdocdmaaDoorNp11
import Derived.Test.YtaiklaipdocdmaaDoorNpC
import Derived.Test.YtaiklaipdocdmaaDoorNp7
/- The law NetPuts. -/
namespace Go.Proofs.YtaiklaipdocdmaaDoor
open Go.ChangeShapes Go.WideShapes Go.ChangeAt Go.RowKit
set_option maxRecDepth 100000
attribute [local go_sem] World.cell?_alloc_some frozen_alloc_some

theorem fs_all {qs ps : List Ep} (h : fs1 qs = fs1 ps) (hp : ∀ t ∈ ps, inF t.1) : ∀ t ∈ qs, inF t.1 := by
  intro t ht
  have : t.1 ∈ fs1 ps := by rw [← h]; exact List.mem_map.mpr ⟨t, ht, rfl⟩
  obtain ⟨u, hu, e⟩ := List.mem_map.mp this
  rw [← e]
  exact hp u hu
theorem fs_small {qs ps : List Ep} (h : fs1 qs = fs1 ps) (hp : ∀ t ∈ ps, small t) : ∀ t ∈ qs, (t.1.ts.length : Int) ≤ 9223372036854775807 := by
  intro t ht
  have : t.1 ∈ fs1 ps := by rw [← h]; exact List.mem_map.mpr ⟨t, ht, rfl⟩
  obtain ⟨u, hu, e⟩ := List.mem_map.mp this
  have := hp u hu
  unfold small at this
  rw [← e]
  omega
def LsmP (ps : List Ep) : Prop := ps.length * 96 ≤ 140737488355328 ∧ ∀ t ∈ ps, small t
theorem set8_msg {w : World} {b : Nat} {c0 c1 c2 c3 c4 c5 c6 c7 c8 : Value} (h : w.heap[b]? = some (.cells #[c0, c1, c2, c3, c4, c5, c6, c7, c8] 60 (0, 0))) {v : Value} : (w.setCell ⟨b, 8, none⟩ v).heap[b]? = some (.cells #[c0, c1, c2, c3, c4, c5, c6, c7, v] 60 (0, 0)) := by
  have := heap_set (i := 8) (v := v) h
  exact this
theorem set_below {B b k : Nat} (w : World) (hb : B ≤ b) (v : Value) (hB : B ≤ w.heap.size) : Below B w (w.setCell ⟨b, k, none⟩ v) :=
  (Kept.setCell (F := fun k => k = b) w (p := ⟨b, k, none⟩) rfl v).below (fun k e => by omega) hB
theorem led_set {base b k : Nat} {w : World} {v x : Value} {ps : List Ep} (h : Led base w v ps) (hb : b < base) : Led base (w.setCell ⟨b, k, none⟩ x) v ps :=
  h.kept (Kept.setCell (F := fun k => k = b) w (p := ⟨b, k, none⟩) rfl x) (fun k e => .inl (by omega))
theorem led_len64 {ds : List Ep} {m : Mg} (h : fs1 ds = m.ls) (hf : inM m) : (ds.length : Int) ≤ 9223372036854775807 := by
  have := hf.led.1
  rw [← h] at this
  simp [fs1] at this
  omega
theorem led_small {ds : List Ep} {m : Mg} (h : fs1 ds = m.ls) (hf : inM m) : ∀ t ∈ ds, (t.1.ts.length : Int) ≤ 9223372036854775807 := fun t ht => by
  have := hf.led.2 t.1 (by rw [← h]; exact List.mem_map.mpr ⟨t, ht, rfl⟩)
  have := this.2.1.1
  omega
theorem inFM_yes (w : World) (m : Mg) (v : Value) (ps : List Ep) (h : Ens w v ps) (hls : fs1 ps = m.ls) (hf : inM m) : Calls Tryd.prog 25 #[vM m v] w fun e w' => e = .returned (.bool true) ∧ Below w.heap.size w w' :=
  inFM_kind w m v ps h hls hf.1 true (by simp [hf.2])
theorem inFM_no (w : World) (m : Mg) (v : Value) (ps : List Ep) (h : Ens w v ps) (hls : fs1 ps = m.ls) (hf : ¬ inM m) : Calls Tryd.prog 25 #[vM m v] w fun e w' => e = .returned (.bool false) ∧ Below w.heap.size w w' := by
  by_cases hh : headM m
  · exact inFM_kind w m v ps h hls hh false (by simp; exact fun hk => hf ⟨hh, hk⟩)
  · exact inFM_head w m v ps h hh
theorem getM_yes (w : World) (v : Value) (m : Mg) (ea eu es : Addr) (h : Rd w v (sealM m)) (he : w.cell? ⟨4, 0, none⟩ = some (vErr ea)) (hu : w.cell? ⟨1, 0, none⟩ = some (vErr eu)) (hes : w.cell? ⟨0, 0, none⟩ = some (vErr es)) (hf : inM m) : Calls Tryd.prog 26 #[v] w fun r w' => ∃ lv qs, r = .returned (.tuple #[vM m lv, .nilIface]) ∧ Led w.heap.size w' lv qs ∧ fs1 qs = m.ls ∧ Below w.heap.size w w' := by
  refine (getM_any w v (sealM m) ea eu es h (by rw [sealM_len]; have := bytesM_len hf; omega) he hu hes).mono ?_
  rintro r w' ⟨hb, ⟨m', lv, qs, hf', hq, hs, rfl, hl⟩ | ⟨⟨xs, hx, hno⟩, _⟩ | ⟨hlt, _⟩ | ⟨⟨xs, ys, hx, hy, hne⟩, _⟩⟩
  · obtain rfl := sealM_inj hf hf' hs
    exact ⟨lv, qs, rfl, hl, hq, hb⟩
  · unfold sealM at hx
    have hl := congrArg List.length hx
    rw [sealed_len, sealed_len] at hl
    exact absurd (List.append_inj hx (by omega)).1.symm (hno m hf)
  · rw [sealM_len] at hlt
    omega
  · unfold sealM at hx
    have hl := congrArg List.length hx
    rw [sealed_len, List.length_append, hy] at hl
    obtain ⟨e1, e2⟩ := List.append_inj hx (by omega)
    exact absurd (by rw [← e2, e1]) hne
set_option maxHeartbeats 25600000 in
theorem puts_no (w : World) (m : Mg) (v : Value) (ps : List Ep) (es : Addr) (hv : Ens w v ps) (hls : fs1 ps = m.ls) (hs : LsmP ps) (E : Err w 0 text0 es) (hf : ¬ inM m) : Calls Tryd.prog 6 #[vM m v] w fun r w' => r = .returned (.bool true) ∧ Below w.heap.size w w' := by
  obtain ⟨a, cap, rfl⟩ : ∃ a cap, v = .slice a ps.length cap := by obtain ⟨a, cap, e, _⟩ := hv; exact ⟨a, cap, e⟩
  obtain ⟨a0, a1, a2, a3, a4, a5, a6, a7, ls⟩ := m
  have R0 := fun W (hW : Below (w.alloc (cM ⟨a0, a1, a2, a3, a4, a5, a6, a7, ls⟩ (.slice a ps.length cap))).heap.size (w.alloc (cM ⟨a0, a1, a2, a3, a4, a5, a6, a7, ls⟩ (.slice a ps.length cap))) W) => msg_late ⟨a0, a1, a2, a3, a4, a5, a6, a7, ls⟩ (.slice a ps.length cap) hW
  have HV := mkHid hv
  have HLS := mkHid hls
  have HSM := mkHid hs
  have HF := mkHid hf
  have HE := mkHid E
  clear hv hls hs hf E
  simp only [vM]
  go_enter Tryd.func6, Tryd.ntmps6
  go_wp2_with (first
    | (go_at_call 20; refine (speaks_any _ es (HE.out.late (ba (Below.refl _ w) _))).mono ?_; rintro r w1 ⟨rfl, b1⟩; have HB1 : Hid (Below (w.alloc (cM ⟨a0, a1, a2, a3, a4, a5, a6, a7, ls⟩ (.slice a ps.length cap))).heap.size (w.alloc (cM ⟨a0, a1, a2, a3, a4, a5, a6, a7, ls⟩ (.slice a ps.length cap))) w1) := mkHid b1; clear b1; obtain ⟨p0, p1, p2, p3, p4, p5, p6, p7, p8⟩ := msg_cells ((R0 _ HB1.out)))
    | (go_at_call 21; refine (copy_any _ _ ps (HV.out.below (bt (bt (ba (Below.refl _ w) _) HB1.out) (ba (Below.refl _ w1) _))) HSM.out.1 HSM.out.2).mono ?_; rintro r w2 ⟨v2, qs, rfl, hl2, hq2, b2⟩; obtain ⟨ia, ic, rfl, _⟩ := own_sh hl2.own; have hqs : qs.length = ps.length := (by have := congrArg List.length hq2; simpa using this); have hq3 : fs1 qs = ls := hq2.trans HLS.out; have HEN : Hid (Ens (w2.setCell ⟨w1.heap.size, 8, none⟩ (.slice ia qs.length ic)) (.slice ia qs.length ic) qs) := mkHid ((led_set hl2 (by simp)).ens (by have := HSM.out.1; omega) (fs_small hq2 HSM.out.2)); have HQ := mkHid hq3; have hm2 := msg_late ⟨a0, a1, a2, a3, a4, a5, a6, a7, ls⟩ (.slice a ps.length cap) b2; have I3 : Hid (∀ W, Below (w2.setCell ⟨w1.heap.size, 8, none⟩ (.slice ia qs.length ic)).heap.size (w2.setCell ⟨w1.heap.size, 8, none⟩ (.slice ia qs.length ic)) W → W.heap[w1.heap.size]? = some (.cells #[.int .i64 a0, .int .i64 a1, .int .i64 a2, .int .i64 a3, .int .i64 a4, .int .i64 a5, .int .i64 a6, .int .i64 a7, .slice ia qs.length ic] 60 (0, 0))) := mkHid (fun W hW => (hW.block _ (by have := lt_of_heap hm2; simpa using this)).trans (set8_msg hm2)); have HB3 : Hid (Below (w.alloc (cM ⟨a0, a1, a2, a3, a4, a5, a6, a7, ls⟩ (.slice a ps.length cap))).heap.size (w.alloc (cM ⟨a0, a1, a2, a3, a4, a5, a6, a7, ls⟩ (.slice a ps.length cap))) (w2.setCell ⟨w1.heap.size, 8, none⟩ (.slice ia qs.length ic))) := mkHid ((bt HB1.out (bt (ba (Below.refl _ w1) _) b2)).trans (set_below w2 (by have := HB1.out.size; exact this) _ (by have h1 := HB1.out.size; have h2 := b2.size; simp at h1 h2 ⊢; omega))); have f8 : w2.frozen? ⟨w1.heap.size, 8, none⟩ = false := frozen_of_block hm2; clear p0 p1 p2 p3 p4 p5 p6 p7 p8; obtain ⟨q0, q1, q2, q3, q4, q5, q6, q7, q8⟩ := msg_cells (hm2); clear hl2 hq2 b2 hm2 hq3 hqs)
    | (go_at_call 22; refine (checkM_any _ ⟨a0, a1, a2, a3, a4, a5, a6, a7, ls⟩ _ qs es HEN.out HQ.out (HE.out.late (bt (ba (Below.refl _ w) _) HB3.out)).1 (vErr es) (.inr ⟨HF.out, rfl⟩)).mono ?_; rintro r w4 ⟨rfl, b4⟩; have HI4 : Hid (Below (w2.setCell ⟨w1.heap.size, 8, none⟩ (.slice ia qs.length ic)).heap.size (w2.setCell ⟨w1.heap.size, 8, none⟩ (.slice ia qs.length ic)) w4) := mkHid b4; have HB4 := mkHid (bt HB3.out b4); clear q0 q1 q2 q3 q4 q5 q6 q7 q8; obtain ⟨p0, p1, p2, p3, p4, p5, p6, p7, p8⟩ := msg_cells ((R0 _ HB4.out)); obtain ⟨q0, q1, q2, q3, q4, q5, q6, q7, q8⟩ := msg_cells ((I3.out _ HI4.out)); clear b4)
    | (go_at_call 23; refine (putM_no w4 ⟨a0, a1, a2, a3, a4, a5, a6, a7, ls⟩ _ qs es (HEN.out.below HI4.out) HQ.out (HE.out.late (bt (ba (Below.refl _ w) _) HB4.out)).1 HF.out).mono ?_; rintro r w5 ⟨rfl, b5⟩; have HI5 := mkHid (bt HI4.out b5); have HB5 := mkHid (bt HB4.out b5); clear p0 p1 p2 p3 p4 p5 p6 p7 p8; clear q0 q1 q2 q3 q4 q5 q6 q7 q8; obtain ⟨p0, p1, p2, p3, p4, p5, p6, p7, p8⟩ := msg_cells ((R0 _ HB5.out)); obtain ⟨q0, q1, q2, q3, q4, q5, q6, q7, q8⟩ := msg_cells ((I3.out _ HI5.out)); clear b5)
    | (go_at_call 24; refine (sameM_any w5 ⟨a0, a1, a2, a3, a4, a5, a6, a7, ls⟩ ⟨a0, a1, a2, a3, a4, a5, a6, a7, ls⟩ _ _ qs ps (HEN.out.below HI5.out) (HV.out.below (bt (ba (Below.refl _ w) _) HB5.out)) HQ.out HLS.out true (by simp)).mono ?_; rintro r w6 ⟨rfl, b6⟩; have HP6 := mkHid b6; have HB6 := mkHid (bt HB5.out b6); clear p0 p1 p2 p3 p4 p5 p6 p7 p8; clear q0 q1 q2 q3 q4 q5 q6 q7 q8; obtain ⟨p0, p1, p2, p3, p4, p5, p6, p7, p8⟩ := msg_cells ((R0 _ HB6.out)); clear b6)
    | (go_at_call 25; refine (inFM_no w6 ⟨a0, a1, a2, a3, a4, a5, a6, a7, ls⟩ _ ps (HV.out.below (bt (ba (Below.refl _ w) _) HB6.out)) HLS.out HF.out).mono ?_; rintro r w7 ⟨rfl, b7⟩; have HP7 := mkHid (bt HP6.out b7); have HB7 := mkHid (bt HB6.out b7); clear p0 p1 p2 p3 p4 p5 p6 p7 p8; clear b7; have ce := (HE.out.late (bt (ba (Below.refl _ w) _) HB7.out)).1; have ceq := HE.out.eq))
  go_ret
  exact ⟨rfl, bt (ba (Below.refl _ w) _) HB7.out⟩
set_option maxHeartbeats 25600000 in
theorem puts_yes (w : World) (m : Mg) (v : Value) (ps : List Ep) (es eb eu : Addr) (hv : Ens w v ps) (hls : fs1 ps = m.ls) (hs : LsmP ps) (E : Err w 0 text0 es) (heb : w.cell? ⟨4, 0, none⟩ = some (vErr eb)) (heu : w.cell? ⟨1, 0, none⟩ = some (vErr eu)) (hf : inM m) : Calls Tryd.prog 6 #[vM m v] w fun r w' => r = .returned (.bool true) ∧ Below w.heap.size w w' := by
  have HEB := mkHid heb
  have HEU := mkHid heu
  clear heb heu
  obtain ⟨a, cap, rfl⟩ : ∃ a cap, v = .slice a ps.length cap := by obtain ⟨a, cap, e, _⟩ := hv; exact ⟨a, cap, e⟩
  obtain ⟨a0, a1, a2, a3, a4, a5, a6, a7, ls⟩ := m
  have R0 := fun W (hW : Below (w.alloc (cM ⟨a0, a1, a2, a3, a4, a5, a6, a7, ls⟩ (.slice a ps.length cap))).heap.size (w.alloc (cM ⟨a0, a1, a2, a3, a4, a5, a6, a7, ls⟩ (.slice a ps.length cap))) W) => msg_late ⟨a0, a1, a2, a3, a4, a5, a6, a7, ls⟩ (.slice a ps.length cap) hW
  have HV := mkHid hv
  have HLS := mkHid hls
  have HSM := mkHid hs
  have HF := mkHid hf
  have HE := mkHid E
  clear hv hls hs hf E
  simp only [vM]
  go_enter Tryd.func6, Tryd.ntmps6
  go_wp2_with (first
    | (go_at_call 20; refine (speaks_any _ es (HE.out.late (ba (Below.refl _ w) _))).mono ?_; rintro r w1 ⟨rfl, b1⟩; have HB1 : Hid (Below (w.alloc (cM ⟨a0, a1, a2, a3, a4, a5, a6, a7, ls⟩ (.slice a ps.length cap))).heap.size (w.alloc (cM ⟨a0, a1, a2, a3, a4, a5, a6, a7, ls⟩ (.slice a ps.length cap))) w1) := mkHid b1; clear b1; obtain ⟨p0, p1, p2, p3, p4, p5, p6, p7, p8⟩ := msg_cells ((R0 _ HB1.out)))
    | (go_at_call 21; refine (copy_any _ _ ps (HV.out.below (bt (bt (ba (Below.refl _ w) _) HB1.out) (ba (Below.refl _ w1) _))) HSM.out.1 HSM.out.2).mono ?_; rintro r w2 ⟨v2, qs, rfl, hl2, hq2, b2⟩; obtain ⟨ia, ic, rfl, _⟩ := own_sh hl2.own; have hqs : qs.length = ps.length := (by have := congrArg List.length hq2; simpa using this); have hq3 : fs1 qs = ls := hq2.trans HLS.out; have HEN : Hid (Ens (w2.setCell ⟨w1.heap.size, 8, none⟩ (.slice ia qs.length ic)) (.slice ia qs.length ic) qs) := mkHid ((led_set hl2 (by simp)).ens (by have := HSM.out.1; omega) (fs_small hq2 HSM.out.2)); have HQ := mkHid hq3; have hm2 := msg_late ⟨a0, a1, a2, a3, a4, a5, a6, a7, ls⟩ (.slice a ps.length cap) b2; have I3 : Hid (∀ W, Below (w2.setCell ⟨w1.heap.size, 8, none⟩ (.slice ia qs.length ic)).heap.size (w2.setCell ⟨w1.heap.size, 8, none⟩ (.slice ia qs.length ic)) W → W.heap[w1.heap.size]? = some (.cells #[.int .i64 a0, .int .i64 a1, .int .i64 a2, .int .i64 a3, .int .i64 a4, .int .i64 a5, .int .i64 a6, .int .i64 a7, .slice ia qs.length ic] 60 (0, 0))) := mkHid (fun W hW => (hW.block _ (by have := lt_of_heap hm2; simpa using this)).trans (set8_msg hm2)); have HB3 : Hid (Below (w.alloc (cM ⟨a0, a1, a2, a3, a4, a5, a6, a7, ls⟩ (.slice a ps.length cap))).heap.size (w.alloc (cM ⟨a0, a1, a2, a3, a4, a5, a6, a7, ls⟩ (.slice a ps.length cap))) (w2.setCell ⟨w1.heap.size, 8, none⟩ (.slice ia qs.length ic))) := mkHid ((bt HB1.out (bt (ba (Below.refl _ w1) _) b2)).trans (set_below w2 (by have := HB1.out.size; exact this) _ (by have h1 := HB1.out.size; have h2 := b2.size; simp at h1 h2 ⊢; omega))); have f8 : w2.frozen? ⟨w1.heap.size, 8, none⟩ = false := frozen_of_block hm2; clear p0 p1 p2 p3 p4 p5 p6 p7 p8; obtain ⟨q0, q1, q2, q3, q4, q5, q6, q7, q8⟩ := msg_cells (hm2); clear hl2 hq2 b2 hm2 hq3 hqs)
    | (go_at_call 22; refine (checkM_any _ ⟨a0, a1, a2, a3, a4, a5, a6, a7, ls⟩ _ qs es HEN.out HQ.out (HE.out.late (bt (ba (Below.refl _ w) _) HB3.out)).1 .nilIface (.inl ⟨HF.out, rfl⟩)).mono ?_; rintro r w4 ⟨rfl, b4⟩; have HI4 : Hid (Below (w2.setCell ⟨w1.heap.size, 8, none⟩ (.slice ia qs.length ic)).heap.size (w2.setCell ⟨w1.heap.size, 8, none⟩ (.slice ia qs.length ic)) w4) := mkHid b4; have HB4 := mkHid (bt HB3.out b4); clear q0 q1 q2 q3 q4 q5 q6 q7 q8; obtain ⟨p0, p1, p2, p3, p4, p5, p6, p7, p8⟩ := msg_cells ((R0 _ HB4.out)); obtain ⟨q0, q1, q2, q3, q4, q5, q6, q7, q8⟩ := msg_cells ((I3.out _ HI4.out)); clear b4)
    | (go_at_call 23; refine (putM_yes w4 ⟨a0, a1, a2, a3, a4, a5, a6, a7, ls⟩ _ qs es (HEN.out.below HI4.out) HQ.out (HE.out.late (bt (ba (Below.refl _ w) _) HB4.out)).1 HF.out).mono ?_; rintro r w5 ⟨v5, rfl, ho5, b5⟩; obtain ⟨bn, hbn⟩ : ∃ bn, bn = (sealM ⟨a0, a1, a2, a3, a4, a5, a6, a7, ls⟩).length := ⟨_, rfl⟩; rw [← hbn] at ho5; have HBN := mkHid hbn; obtain ⟨xba, bc, rfl⟩ := own_shape ho5; have HO5 := mkHid ho5; clear ho5 hbn; have HP5 := mkHid b5; have HI5 := mkHid (bt HI4.out b5); have HB5 := mkHid (bt HB4.out b5); clear p0 p1 p2 p3 p4 p5 p6 p7 p8; clear q0 q1 q2 q3 q4 q5 q6 q7 q8; obtain ⟨p0, p1, p2, p3, p4, p5, p6, p7, p8⟩ := msg_cells ((R0 _ HB5.out)); obtain ⟨q0, q1, q2, q3, q4, q5, q6, q7, q8⟩ := msg_cells ((I3.out _ HI5.out)); clear b5)
    | (go_at_call 24; refine (sameM_any w5 ⟨a0, a1, a2, a3, a4, a5, a6, a7, ls⟩ ⟨a0, a1, a2, a3, a4, a5, a6, a7, ls⟩ _ _ qs ps (HEN.out.below HI5.out) (HV.out.below (bt (ba (Below.refl _ w) _) HB5.out)) HQ.out HLS.out true (by simp)).mono ?_; rintro r w6 ⟨rfl, b6⟩; have HP6 := mkHid b6; have HB6 := mkHid (bt HB5.out b6); clear p0 p1 p2 p3 p4 p5 p6 p7 p8; clear q0 q1 q2 q3 q4 q5 q6 q7 q8; obtain ⟨p0, p1, p2, p3, p4, p5, p6, p7, p8⟩ := msg_cells ((R0 _ HB6.out)); clear b6)
    | (go_at_call 25; refine (inFM_yes w6 ⟨a0, a1, a2, a3, a4, a5, a6, a7, ls⟩ _ ps (HV.out.below (bt (ba (Below.refl _ w) _) HB6.out)) HLS.out HF.out).mono ?_; rintro r w7 ⟨rfl, b7⟩; have HP7 := mkHid (bt HP6.out b7); have HB7 := mkHid (bt HB6.out b7); clear p0 p1 p2 p3 p4 p5 p6 p7 p8; clear b7)
    | (go_at_call 26; refine (getM_yes w7 _ ⟨a0, a1, a2, a3, a4, a5, a6, a7, ls⟩ eb eu es ((Rd.of_owns (sealM_byts ⟨a0, a1, a2, a3, a4, a5, a6, a7, ls⟩) (by rw [← HBN.out]; exact HO5.out)).later HP7.out) (kc HEB.out (bt (ba (Below.refl _ w) _) HB7.out)) (kc HEU.out (bt (ba (Below.refl _ w) _) HB7.out)) (HE.out.late (bt (ba (Below.refl _ w) _) HB7.out)).1 HF.out).mono ?_; rintro r w8 ⟨dv, ds, rfl, hd8, hq8, b8⟩; obtain ⟨da, dc, rfl, _⟩ := own_sh hd8.own; simp only [vM]; have HDE : Hid (Ens (w8.alloc (cM ⟨a0, a1, a2, a3, a4, a5, a6, a7, ls⟩ (.slice da ds.length dc))) (.slice da ds.length dc) ds) := mkHid ((hd8.ens (led_len64 hq8 HF.out) (led_small hq8 HF.out)).below (ba (Below.refl _ w8) _)); have HDQ := mkHid hq8; have HP8 := mkHid (bt HP7.out b8); have HB8 := mkHid (bt HB7.out b8); clear b8 hd8 hq8))
  have D0 := fun W (hW : Below (w8.alloc (cM ⟨a0, a1, a2, a3, a4, a5, a6, a7, ls⟩ (.slice da ds.length dc))).heap.size (w8.alloc (cM ⟨a0, a1, a2, a3, a4, a5, a6, a7, ls⟩ (.slice da ds.length dc))) W) => msg_late ⟨a0, a1, a2, a3, a4, a5, a6, a7, ls⟩ (.slice da ds.length dc) hW
  obtain ⟨SB, hSB⟩ : ∃ SB, SB = strOfNums (sealM ⟨a0, a1, a2, a3, a4, a5, a6, a7, ls⟩) := ⟨_, rfl⟩
  have HSB := mkHid hSB
  clear hSB
  have HCV : Hid (∀ W, Below (w8.alloc (cM ⟨a0, a1, a2, a3, a4, a5, a6, a7, ls⟩ (.slice da ds.length dc))).heap.size (w8.alloc (cM ⟨a0, a1, a2, a3, a4, a5, a6, a7, ls⟩ (.slice da ds.length dc))) W → (convert 32 9 (.slice xba bn bc)).run Tryd.prog W = .ok (.string SB) W) := mkHid (fun W hW => by
    have := ((Rd.of_owns (bs := sealM ⟨a0, a1, a2, a3, a4, a5, a6, a7, ls⟩) (sealM_byts _) (by rw [← HBN.out]; exact HO5.out)).later (bt (bt HP8.out (ba (Below.refl _ w8) (cM ⟨a0, a1, a2, a3, a4, a5, a6, a7, ls⟩ (.slice da ds.length dc)))) hW)).conv
    rw [HSB.out]
    exact this)
  obtain ⟨p0, p1, p2, p3, p4, p5, p6, p7, p8⟩ := msg_cells (R0 _ (bt HB8.out ((ba (Below.refl _ w8) (cM ⟨a0, a1, a2, a3, a4, a5, a6, a7, ls⟩ (.slice da ds.length dc))).drew)))
  obtain ⟨d0, d1, d2, d3, d4, d5, d6, d7, d8⟩ := msg_cells (D0 _ (Below.refl _ _).drew)
  have cv := HCV.out _ (Below.refl _ _).drew
  refine wp_region_held_drew (S := fun w' => w'.cell? ⟨w.heap.size, 0, none⟩ = some (.int .i64 a0) ∧ w'.cell? ⟨w.heap.size, 1, none⟩ = some (.int .i64 a1) ∧ w'.cell? ⟨w.heap.size, 2, none⟩ = some (.int .i64 a2) ∧ w'.cell? ⟨w.heap.size, 3, none⟩ = some (.int .i64 a3) ∧ w'.cell? ⟨w.heap.size, 4, none⟩ = some (.int .i64 a4) ∧ w'.cell? ⟨w.heap.size, 5, none⟩ = some (.int .i64 a5) ∧ w'.cell? ⟨w.heap.size, 6, none⟩ = some (.int .i64 a6) ∧ w'.cell? ⟨w.heap.size, 7, none⟩ = some (.int .i64 a7) ∧ w'.cell? ⟨w.heap.size, 8, none⟩ = some (.slice a ps.length cap) ∧ w'.cell? ⟨w8.heap.size, 0, none⟩ = some (.int .i64 a0) ∧ w'.cell? ⟨w8.heap.size, 1, none⟩ = some (.int .i64 a1) ∧ w'.cell? ⟨w8.heap.size, 2, none⟩ = some (.int .i64 a2) ∧ w'.cell? ⟨w8.heap.size, 3, none⟩ = some (.int .i64 a3) ∧ w'.cell? ⟨w8.heap.size, 4, none⟩ = some (.int .i64 a4) ∧ w'.cell? ⟨w8.heap.size, 5, none⟩ = some (.int .i64 a5) ∧ w'.cell? ⟨w8.heap.size, 6, none⟩ = some (.int .i64 a6) ∧ w'.cell? ⟨w8.heap.size, 7, none⟩ = some (.int .i64 a7) ∧ w'.cell? ⟨w8.heap.size, 8, none⟩ = some (.slice da ds.length dc) ∧ (convert 32 9 (.slice xba bn bc)).run Tryd.prog w' = .ok (.string SB) w') (by kernel_rfl) ⟨p0, p1, p2, p3, p4, p5, p6, p7, p8, d0, d1, d2, d3, d4, d5, d6, d7, d8, cv⟩ (fun hHeld => ?_)
  refine takeD 0 48 (.nilIface) rfl rfl (by kernel_rfl) (by kernel_rfl) (by kernel_rfl) (fun _ _ _ h => h) (Or.inl ⟨by kernel_rfl, by intro w hSw; (try dsimp only at hSw); go_simp⟩) hHeld ?_
  simp only [List.set_cons_zero, List.set_cons_succ]
  refine takeD 1 49 (.bool true) rfl rfl (by kernel_rfl) (by kernel_rfl) (by kernel_rfl) (fun _ _ _ h => h) (Or.inl ⟨by kernel_rfl, by intro w hSw; (try dsimp only at hSw); go_simp⟩) hHeld ?_
  simp only [List.set_cons_zero, List.set_cons_succ]
  refine takeD 2 50 (.bool true) rfl rfl (by kernel_rfl) (by kernel_rfl) (by kernel_rfl) (fun _ _ _ h => h) (Or.inl ⟨by kernel_rfl, by intro w hSw; (try dsimp only at hSw); go_simp⟩) hHeld ?_
  simp only [List.set_cons_zero, List.set_cons_succ]
  refine takeD 3 51 (.nilIface) rfl rfl (by kernel_rfl) (by kernel_rfl) (by kernel_rfl) (fun _ _ _ h => h) (Or.inl ⟨by kernel_rfl, by intro w hSw; (try dsimp only at hSw); go_simp⟩) hHeld ?_
  simp only [List.set_cons_zero, List.set_cons_succ]
  refine takeD 4 52 (.bool true) rfl rfl (by kernel_rfl) (by kernel_rfl) (by kernel_rfl) (fun _ _ _ h => h) (Or.inl ⟨by kernel_rfl, by intro w hSw; (try dsimp only at hSw); go_simp⟩) hHeld ?_
  simp only [List.set_cons_zero, List.set_cons_succ]
  refine takeD 5 53 (.bool true) rfl rfl (by kernel_rfl) (by kernel_rfl) (by kernel_rfl) (fun _ _ _ h => h) (Or.inl ⟨by kernel_rfl, by intro w hSw; (try dsimp only at hSw); go_simp⟩) hHeld ?_
  simp only [List.set_cons_zero, List.set_cons_succ]
  refine takeD 6 54 (.bool true) rfl rfl (by kernel_rfl) (by kernel_rfl) (by kernel_rfl) (fun _ _ _ h => h) (Or.inl ⟨by kernel_rfl, by intro w hSw; (try dsimp only at hSw); go_simp⟩) hHeld ?_
  simp only [List.set_cons_zero, List.set_cons_succ]
  refine takeD 7 55 (.slice xba bn bc) rfl rfl (by kernel_rfl) (by kernel_rfl) (by kernel_rfl) (fun _ _ _ h => h) (Or.inl ⟨by kernel_rfl, by intro w hSw; (try dsimp only at hSw); go_simp⟩) hHeld ?_
  simp only [List.set_cons_zero, List.set_cons_succ]
  refine takeD 8 56 (.string SB) rfl rfl (by kernel_rfl) (by kernel_rfl) (by kernel_rfl) (fun _ _ _ h => h) (Or.inl ⟨by kernel_rfl, by intro w hSw; (try dsimp only at hSw); go_simp⟩) hHeld ?_
  simp only [List.set_cons_zero, List.set_cons_succ]
  refine takeD 9 57 (.agg #[.int .i64 a0, .int .i64 a1, .int .i64 a2, .int .i64 a3, .int .i64 a4, .int .i64 a5, .int .i64 a6, .int .i64 a7, .slice a ps.length cap]) rfl rfl (by kernel_rfl) (by kernel_rfl) (by kernel_rfl) (fun _ _ _ h => h) (Or.inl ⟨by kernel_rfl, by intro w hSw; (try dsimp only at hSw); go_simp⟩) hHeld ?_
  simp only [List.set_cons_zero, List.set_cons_succ]
  have HB9 := mkHid (HB8.out.trans ((ba (Below.refl _ w8) (cM ⟨a0, a1, a2, a3, a4, a5, a6, a7, ls⟩ (.slice da ds.length dc))).drew.mono HB8.out.size))
  have HD9 : Hid (Below (w8.alloc (cM ⟨a0, a1, a2, a3, a4, a5, a6, a7, ls⟩ (.slice da ds.length dc))).heap.size (w8.alloc (cM ⟨a0, a1, a2, a3, a4, a5, a6, a7, ls⟩ (.slice da ds.length dc))) (w8.alloc (cM ⟨a0, a1, a2, a3, a4, a5, a6, a7, ls⟩ (.slice da ds.length dc))).drew) := mkHid (Below.refl _ _).drew
  refine wpAnyH_ready (rs := [10]) (by kernel_rfl) (by simp) (AllReadyH.cons rfl (fun K hK => ?_) AllReadyH.nil)
  go_simp
  refine (rputM_any _ ⟨a0, a1, a2, a3, a4, a5, a6, a7, ls⟩ _ ps (HV.out.below (bt (ba (Below.refl _ w) _) HB9.out)) HLS.out HF.out).mono ?_
  rintro r w10 ⟨v10, rfl, ho10, hb6⟩
  have HB10 := mkHid (bt HB9.out hb6)
  have HD10 := mkHid (bt HD9.out hb6)
  obtain ⟨xa, xc, rfl⟩ := own_shape ho10
  have HC10 := mkHid (Rd.of_owns (bs := sealM ⟨a0, a1, a2, a3, a4, a5, a6, a7, ls⟩) (sealM_byts _) ho10).conv
  rw [← HSB.out, ← HBN.out] at HC10
  rw [← HBN.out]
  clear ho10
  clear hb6 hHeld
  clear p0 p1 p2 p3 p4 p5 p6 p7 p8 d0 d1 d2 d3 d4 d5 d6 d7 d8 cv
  obtain ⟨p0, p1, p2, p3, p4, p5, p6, p7, p8⟩ := msg_cells (R0 _ HB10.out)
  obtain ⟨d0, d1, d2, d3, d4, d5, d6, d7, d8⟩ := msg_cells (D0 _ HD10.out)
  have cv := HCV.out _ HD10.out
  refine hK.out _ _ ⟨p0, p1, p2, p3, p4, p5, p6, p7, p8, d0, d1, d2, d3, d4, d5, d6, d7, d8, cv⟩ (fun hHeld => ?_)
  clear hK K
  have cv2 := HC10.out
  refine wpAnyH_ready (rs := [11]) (by kernel_rfl) (by simp) (AllReadyH.cons rfl (fun K hK => ?_) AllReadyH.nil)
  go_simp
  refine hK.out _ _ hHeld (fun hHeld => ?_)
  clear hK K cv2
  (try simp only [Act.put])
  refine takeD 12 60 (.bool true) rfl rfl (by kernel_rfl) (by kernel_rfl) (by kernel_rfl) (fun _ _ _ h => h) (Or.inl ⟨by kernel_rfl, by intro w hSw; (try dsimp only at hSw); go_simp⟩) hHeld ?_
  simp only [List.set_cons_zero, List.set_cons_succ]
  refine takeD 13 61 (.bool true) rfl rfl (by kernel_rfl) (by kernel_rfl) (by kernel_rfl) (fun _ _ _ h => h) (Or.inl ⟨by kernel_rfl, by intro w hSw; (try dsimp only at hSw); go_simp⟩) hHeld ?_
  simp only [List.set_cons_zero, List.set_cons_succ]
  refine takeD 14 62 (.bool true) rfl rfl (by kernel_rfl) (by kernel_rfl) (by kernel_rfl) (fun _ _ _ h => h) (Or.inl ⟨by kernel_rfl, by intro w hSw; (try dsimp only at hSw); go_simp⟩) hHeld ?_
  simp only [List.set_cons_zero, List.set_cons_succ]
  refine takeD 15 63 (.nilIface) rfl rfl (by kernel_rfl) (by kernel_rfl) (by kernel_rfl) (fun _ _ _ h => h) (Or.inl ⟨by kernel_rfl, by intro w hSw; (try dsimp only at hSw); go_simp⟩) hHeld ?_
  simp only [List.set_cons_zero, List.set_cons_succ]
  refine takeD 16 64 (.bool true) rfl rfl (by kernel_rfl) (by kernel_rfl) (by kernel_rfl) (fun _ _ _ h => h) (Or.inl ⟨by kernel_rfl, by intro w hSw; (try dsimp only at hSw); go_simp⟩) hHeld ?_
  simp only [List.set_cons_zero, List.set_cons_succ]
  refine takeD 17 65 (.bool true) rfl rfl (by kernel_rfl) (by kernel_rfl) (by kernel_rfl) (fun _ _ _ h => h) (Or.inl ⟨by kernel_rfl, by intro w hSw; (try dsimp only at hSw); go_simp⟩) hHeld ?_
  simp only [List.set_cons_zero, List.set_cons_succ]
  refine takeD 18 66 (.bool true) rfl rfl (by kernel_rfl) (by kernel_rfl) (by kernel_rfl) (fun _ _ _ h => h) (Or.inl ⟨by kernel_rfl, by intro w hSw; (try dsimp only at hSw); go_simp⟩) hHeld ?_
  simp only [List.set_cons_zero, List.set_cons_succ]
  refine takeD 19 67 (.agg #[.int .i64 a0, .int .i64 a1, .int .i64 a2, .int .i64 a3, .int .i64 a4, .int .i64 a5, .int .i64 a6, .int .i64 a7, .slice da ds.length dc]) rfl rfl (by kernel_rfl) (by kernel_rfl) (by kernel_rfl) (fun _ _ _ h => h) (Or.inl ⟨by kernel_rfl, by intro w hSw; (try dsimp only at hSw); go_simp⟩) hHeld ?_
  simp only [List.set_cons_zero, List.set_cons_succ]
  refine takeD 20 68 (.agg #[.int .i64 a0, .int .i64 a1, .int .i64 a2, .int .i64 a3, .int .i64 a4, .int .i64 a5, .int .i64 a6, .int .i64 a7, .slice a ps.length cap]) rfl rfl (by kernel_rfl) (by kernel_rfl) (by kernel_rfl) (fun _ _ _ h => h) (Or.inl ⟨by kernel_rfl, by intro w hSw; (try dsimp only at hSw); go_simp⟩) hHeld ?_
  simp only [List.set_cons_zero, List.set_cons_succ]
  refine wpAnyH_ready (rs := [21]) (by kernel_rfl) (by simp) (AllReadyH.cons rfl (fun K hK => ?_) AllReadyH.nil)
  go_simp
  refine (sameM_any _ ⟨a0, a1, a2, a3, a4, a5, a6, a7, ls⟩ ⟨a0, a1, a2, a3, a4, a5, a6, a7, ls⟩ _ _ ds ps (HDE.out.below HD10.out) (HV.out.below (bt (ba (Below.refl _ w) _) HB10.out)) HDQ.out HLS.out true (by simp)).mono ?_
  rintro r w11 ⟨rfl, hb6⟩
  have HB11 := mkHid (bt HB10.out hb6)
  have HD11 := mkHid (bt HD10.out hb6)
  clear hb6 hHeld
  clear p0 p1 p2 p3 p4 p5 p6 p7 p8 d0 d1 d2 d3 d4 d5 d6 d7 d8 cv
  obtain ⟨p0, p1, p2, p3, p4, p5, p6, p7, p8⟩ := msg_cells (R0 _ HB11.out)
  obtain ⟨d0, d1, d2, d3, d4, d5, d6, d7, d8⟩ := msg_cells (D0 _ HD11.out)
  have cv := HCV.out _ HD11.out
  refine hK.out _ _ ⟨p0, p1, p2, p3, p4, p5, p6, p7, p8, d0, d1, d2, d3, d4, d5, d6, d7, d8, cv⟩ (fun hHeld => ?_)
  clear hK K
  refine takeD 22 70 (.bool true) rfl rfl (by kernel_rfl) (by kernel_rfl) (by kernel_rfl) (fun _ _ _ h => h) (Or.inl ⟨by kernel_rfl, by intro w hSw; (try dsimp only at hSw); go_simp⟩) hHeld ?_
  simp only [List.set_cons_zero, List.set_cons_succ]
  refine takeD 23 2 (.bool true) rfl rfl (by kernel_rfl) (by kernel_rfl) (by kernel_rfl) (fun _ _ _ h => h) (Or.inl ⟨by kernel_rfl, by intro w hSw; (try dsimp only at hSw); go_simp⟩) hHeld ?_
  simp only [List.set_cons_zero, List.set_cons_succ]
  refine wpAnyH_done (by kernel_rfl) ?_ _
  go_wp2
  go_ret
  exact ⟨rfl, bt (ba (Below.refl _ w) _) HB11.out⟩
end Go.Proofs.YtaiklaipdocdmaaDoor
