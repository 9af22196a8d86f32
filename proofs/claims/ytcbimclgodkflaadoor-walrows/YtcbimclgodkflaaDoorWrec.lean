import Derived.Test.YtcbimclgodkflaaDoorWrests
import Derived.Test.YtcbimclgodkflaaDoorBaseH
import Derived.Laws.ResultCell
/- The record whose payload it is. -/
namespace Go.Proofs.YtcbimclgodkflaaDoor
open Go.ChangeShapes Go.WideShapes Go.ChangeAt Go.RowKit
set_option maxRecDepth 100000

def encs (ns : List Nat) : List Int := ns.flatMap enc
theorem encs_strip : ∀ (ns ms : List Nat) (rest tail : List Int), ns.length ≤ ms.length → encs ns ++ rest = encs ms ++ tail → rest = encs (ms.drop ns.length) ++ tail ∧ ns = ms.take ns.length := by
  intro ns
  induction ns with
  | nil => intro ms rest tail _ h; exact ⟨by simpa [encs] using h, by simp⟩
  | cons x ns ih =>
    intro ms rest tail hl h
    cases ms with
    | nil => simp at hl
    | cons y ms =>
      simp only [encs, List.flatMap_cons, List.append_assoc] at h
      obtain ⟨e1, h3⟩ := enc_free _ _ _ _ h
      subst e1
      obtain ⟨h1, h2⟩ := ih ms rest tail (by simpa using hl) h3
      exact ⟨by simpa using h1, by simp; exact h2⟩
def nums (r : Rc) : List Nat := [r.gen, r.epoch, r.index]
theorem wpay_nums (r : Rc) : wpay r = encs (nums r) ++ (enc r.data.length ++ r.data) := by simp [wpay, encs, nums, List.append_assoc]
theorem no_rec {bs rest : List Int} {ns : List Nat} (hb : bs = encs ns ++ rest) (hk : ns.length < 3) (hno : ∀ (N : Nat) (s : List Int), (N : Int) ≤ 1099511627776 → rest ≠ enc N ++ s) : recOf bs = none := by
  refine recOf_none (fun r hr e => ?_)
  have h1 : encs ns ++ rest = encs (nums r) ++ (enc r.data.length ++ r.data) := by rw [← hb, e, wpay_nums]
  obtain ⟨h2, _⟩ := encs_strip ns (nums r) _ _ (by simp [nums]; omega) h1
  have hg := hr.g
  have he := hr.e
  have hi := hr.i
  have : ns.length = 0 ∨ ns.length = 1 ∨ ns.length = 2 := by omega
  rcases this with e0 | e0 | e0
  · rw [e0] at h2
    exact hno r.gen _ (by omega) (by simpa [nums, encs, List.append_assoc] using h2)
  · rw [e0] at h2
    exact hno r.epoch _ (by omega) (by simpa [nums, encs, List.append_assoc] using h2)
  · rw [e0] at h2
    exact hno r.index _ (by omega) (by simpa [nums, encs, List.append_assoc] using h2)
/-- The cells of the struct that the numbers are read into. -/
def fcells (ns : List Nat) (v : Value) : Array Value := #[.int .i64 ((ns.getD 0 0 : Nat) : Int), .int .i64 ((ns.getD 1 0 : Nat) : Int), .int .i64 ((ns.getD 2 0 : Nat) : Int), v]
theorem fcells_set (ns : List Nat) (v : Value) (k N : Nat) (hk : ns.length = k) (h3 : k < 3) : (fcells ns v).set! k (.int .i64 (N : Int)) = fcells (ns ++ [N]) v := by
  have : k = 0 ∨ k = 1 ∨ k = 2 := by omega
  rcases this with rfl | rfl | rfl
  · have : ns = [] := List.length_eq_zero_iff.mp hk
    subst this; rfl
  · match ns, hk with
    | [a], _ => rfl
  · match ns, hk with
    | [a, b], _ => rfl
theorem fcells_at (ns : List Nat) (v : Value) (k : Nat) (h : k < 3) : (fcells ns v)[k]? = some (.int .i64 ((ns.getD k 0 : Nat) : Int)) := by
  have : k = 0 ∨ k = 1 ∨ k = 2 := by omega
  rcases this with rfl | rfl | rfl <;> rfl
structure RO (w wr : World) (R B0 pr : Nat) (bs : List Int) (F : Nat → Prop) (ns : List Nat) (i : Nat) : Prop where
  fd : wr.heap[R + 1]? = some (.cells (fcells ns (.slice none 0 0)) 92 (0, 0))
  rs : wr.heap[R]? = some (.cells (fcells [] (.slice none 0 0)) 92 (0, 0))
  ps : ∀ j, j < 3 → wr.cell? ⟨B0, j, none⟩ = some (.pointer (some ⟨R + 1, j, none⟩))
  rr : Rr F wr pr bs i
  ff : ∀ k, F k → R + 2 ≤ k ∧ k ≠ B0
  bb : R + 2 ≤ B0 ∧ B0 < wr.heap.size
  rw_ : R = w.heap.size
  bel : Below w.heap.size w wr
  eq : bs = encs ns ++ bs.drop i
  le : ∀ n ∈ ns, n ≤ 1099511627776
theorem RO.num {w wr w' : World} {R B0 pr : Nat} {bs : List Int} {F : Nat → Prop} {ns : List Nat} {i j : Nat} (h : RO w wr R B0 pr bs F ns i) (hk : Kept F wr w') (_ : Rr F w' pr bs j) : w'.heap[R + 1]? = some (.cells (fcells ns (.slice none 0 0)) 92 (0, 0)) ∧ w'.heap[R]? = some (.cells (fcells [] (.slice none 0 0)) 92 (0, 0)) ∧ (∀ j, j < 3 → w'.cell? ⟨B0, j, none⟩ = some (.pointer (some ⟨R + 1, j, none⟩))) ∧ Below w.heap.size w w' := by
  have l1 := (Array.getElem?_eq_some_iff.1 h.fd).1
  have l2 := (Array.getElem?_eq_some_iff.1 h.rs).1
  refine ⟨?_, ?_, fun j hj => hk.cell (h.ps j hj) (fun e => (h.ff _ e).2 rfl), h.bel.trans (hk.below (fun k e => by have := (h.ff k e).1; have := h.rw_; omega) h.bel.size)⟩
  · rw [hk.block (R + 1) l1 (fun e => by have := (h.ff _ e).1; omega)]; exact h.fd
  · rw [hk.block R l2 (fun e => by have := (h.ff _ e).1; omega)]; exact h.rs
theorem RO.next {w wr w' : World} {R B0 pr N : Nat} {bs r : List Int} {F : Nat → Prop} {ns : List Nat} {i : Nat} (h : RO w wr R B0 pr bs F ns i) (hk : Kept F wr w') (hr : Rr F w' pr bs (i + (enc N).length)) (hd : bs.drop i = enc N ++ r) (hN : (N : Int) ≤ 1099511627776) (h3 : ns.length < 3) : RO w (w'.setCell ⟨R + 1, ns.length, none⟩ (.int .i64 (N : Int))) R B0 pr bs F (ns ++ [N]) (i + (enc N).length) := by
  obtain ⟨a1, a2, a3, a4⟩ := h.num hk hr
  have k2 : Kept (fun k => k = R + 1) w' (w'.setCell ⟨R + 1, ns.length, none⟩ (.int .i64 (N : Int))) := Kept.setCell (F := fun k => k = R + 1) w' (p := ⟨R + 1, ns.length, none⟩) rfl _
  have l2 := (Array.getElem?_eq_some_iff.1 a2).1
  have hdr : bs.drop (i + (enc N).length) = r := by rw [← List.drop_drop, hd, List.drop_left]
  refine ⟨by rw [heap_set a1, fcells_set ns _ _ N rfl h3], by rw [k2.block R l2 (by omega)]; exact a2, fun j hj => k2.cell (a3 j hj) (by have := h.bb.1; show ¬ B0 = R + 1; omega), hr.kept k2 (fun k e e2 => by have := (h.ff k e).1; omega), h.ff, ⟨h.bb.1, Nat.lt_of_lt_of_le h.bb.2 (Nat.le_trans hk.size k2.size)⟩, h.rw_, a4.trans (k2.below (fun k e => by have := h.rw_; omega) a4.size), ?_, fun n hn => ?_⟩
  · rw [hdr]
    have := h.eq
    rw [hd] at this
    rw [this]
    simp [encs, List.append_assoc]
  · rcases List.mem_append.mp hn with hn | hn
    · exact h.le n hn
    · simp at hn; subst hn; omega
theorem rec_yes {bs r : List Int} {g e x N : Nat} (hb : bs = encs [g, e, x] ++ (enc N ++ r)) (hN : N = r.length) (hN2 : (N : Int) ≤ 32768) (hB : Byts bs) (hle : ∀ n ∈ [g, e, x], n ≤ 1099511627776) : recOf bs = some ⟨g, e, x, r⟩ := by
  refine recOf_some (by rw [wpay_nums, hb, hN]; rfl) ⟨hle g (by simp), hle e (by simp), hle x (by simp), by show r.length ≤ 32768; omega, ?_⟩
  rw [hb] at hB
  exact hB.right.right
theorem rec_no3 {bs rest : List Int} {ns : List Nat} (hb : bs = encs ns ++ rest) (hk : ns.length = 3) (hno : ∀ (N : Nat) (s : List Int), rest = enc N ++ s → (N : Int) ≤ 32768 → s.length = N → False) : recOf bs = none := by
  refine recOf_none (fun r hr e => ?_)
  have h1 : encs ns ++ rest = encs (nums r) ++ (enc r.data.length ++ r.data) := by rw [← hb, e, wpay_nums]
  obtain ⟨h2, _⟩ := encs_strip ns (nums r) _ _ (by simp [nums]; omega) h1
  rw [hk] at h2
  exact hno r.data.length r.data (by simpa [nums, encs] using h2) (by have := hr.d; omega) rfl
theorem sizeRec : (Tryd.prog.info? 92).map (·.size) = some 4 := by kernel_rfl
theorem rec_leaves {W : World} {R : Nat} {a b c d : Value} (hR : W.heap[R]? = some (.cells #[a, b, c, d] 92 (0, 0))) (tmps : Array Value) (h2 : tmps.getD 2 undef = .pointer (some ⟨R, 0, none⟩)) : (results Tryd.f86 tmps).run Tryd.prog W = .ok (.tuple #[.agg #[a, b, c, d], tmps.getD 3 undef]) W := by
  have hl := run_loadVar_row (P := Tryd.prog) W R 92 92 #[a, b, c, d] (0, 0) _ hR Tryd.underlying92 rfl sizeRec
  rw [results_cell_tmp (p := 2) (u := 3) (ty := 92) rfl, h2]
  simp [asAddr, Result.andThen, hl]
theorem kept_setc {F : Nat → Prop} {w w' : World} (h : Kept F w w') {p : Addr} (hp : F p.block) (v : Value) : Kept F w (w'.setCell p v) := h.trans (Kept.setCell w' hp v) (fun _ hi => .inl hi)
/-- What recordOf answers. -/
def RecPost (w : World) (bs : List Int) (e : Ending) (w' : World) : Prop :=
  Below w.heap.size w w' ∧ ((∃ r a c, recOf bs = some r ∧ e = .returned (.tuple #[.agg #[.int .i64 (r.gen : Int), .int .i64 (r.epoch : Int), .int .i64 (r.index : Int), .slice a r.data.length c], .bool true]) ∧ Rd w' (.slice a r.data.length c) r.data ∧ (∀ k, (Value.slice a r.data.length c).ownBlock = some k → w.heap.size ≤ k ∧ k < w'.heap.size)) ∨
    (recOf bs = none ∧ e = .returned (.tuple #[.agg #[.int .i64 0, .int .i64 0, .int .i64 0, .slice none 0 0], .bool false])))
set_option maxHeartbeats 12800000 in
theorem recordOf_any (w : World) (v : Value) (bs : List Int) (ev : Value) (t : TypeId) (d : Value) (hev : ev = .iface t d) (h : Rd w v bs) (hl : (bs.length : Int) ≤ 140737488355328) (he : w.cell? ⟨6, 0, none⟩ = some ev) :
    Calls Tryd.prog 86 #[v] w (RecPost w bs) := by
  subst hev
  have HV := mkHid h
  have HE := mkHid he
  clear h he
  obtain ⟨R, hR⟩ : ∃ R, R = w.heap.size := ⟨_, rfl⟩
  obtain ⟨W2, hW2⟩ : ∃ W2, W2 = (w.alloc (.cells #[.int .i64 0, .int .i64 0, .int .i64 0, .slice none 0 0] 92)).alloc (.cells #[.int .i64 0, .int .i64 0, .int .i64 0, .slice none 0 0] 92) := ⟨_, rfl⟩
  have hb2 : Below w.heap.size w W2 := by rw [hW2]; exact ((Below.refl _ w).alloc (Nat.le_refl _) _).alloc (by simp) _
  have hz2 : W2.heap.size = R + 2 := by rw [hW2, hR]; simp
  have hr2 : W2.heap[R]? = some (.cells (fcells [] (.slice none 0 0)) 92 (0, 0)) := by
    rw [hW2, hR, heap_alloc_old _ _ (by simp)]
    exact heap_alloc_new w _
  have hf2 : W2.heap[R + 1]? = some (.cells (fcells [] (.slice none 0 0)) 92 (0, 0)) := by
    have := heap_alloc_new (w.alloc (.cells #[.int .i64 0, .int .i64 0, .int .i64 0, .slice none 0 0] 92)) (.cells #[.int .i64 0, .int .i64 0, .int .i64 0, .slice none 0 0] 92)
    rw [show (w.alloc (.cells #[.int .i64 0, .int .i64 0, .int .i64 0, .slice none 0 0] 92)).heap.size = w.heap.size + 1 by simp] at this
    rw [hW2, hR]
    exact this
  have H2 := mkHid (And.intro hb2 (And.intro hz2 (And.intro hr2 hf2)))
  have HR := mkHid hR
  clear hb2 hz2 hr2 hf2
  go_enter Tryd.func86, Tryd.ntmps86
  go_wp2_with (first
    | (go_at_call 72; rw [← hW2]; clear hW2; refine (newReader_any W2 v bs (HV.out.later H2.out.1) hl).mono ?_; rintro e w3 ⟨pr, F3, rfl, hr3, hF3, hb3⟩; have HR3 := mkHid hr3; have HF3 := mkHid hF3; have HB3 := mkHid hb3; clear hr3 hF3 hb3))
  rw [← hR]
  clear hR
  have HRO : Hid (RO w (w3.alloc (.cells #[.pointer (some ⟨R + 1, 0, none⟩), .pointer (some ⟨R + 1, 1, none⟩), .pointer (some ⟨R + 1, 2, none⟩)] 153)) R w3.heap.size pr bs F3 [] 0) := mkHid (by
    obtain ⟨b2, z2, r2, f2⟩ := H2.out
    have b3 := HB3.out
    have s3 := b3.size
    have hnew := heap_alloc_new w3 (.cells #[.pointer (some ⟨R + 1, 0, none⟩), .pointer (some ⟨R + 1, 1, none⟩), .pointer (some ⟨R + 1, 2, none⟩)] 153)
    have ba : Below w3.heap.size w3 (w3.alloc (.cells #[.pointer (some ⟨R + 1, 0, none⟩), .pointer (some ⟨R + 1, 1, none⟩), .pointer (some ⟨R + 1, 2, none⟩)] 153)) := (Below.refl _ w3).alloc (Nat.le_refl _) _
    refine ⟨?_, ?_, fun j hj => ?_, HR3.out.below ba, fun k e => ⟨by have := HF3.out k e; omega, fun e2 => by have := HR3.out.1 k e; omega⟩, ⟨by omega, by simp⟩, HR.out, (b2.trans (b3.mono b2.size)).trans (ba.mono (Nat.le_trans b2.size s3)), by simp [encs], by simp⟩
    · rw [ba.block (R + 1) (by omega), b3.block (R + 1) (by omega)]; exact f2
    · rw [ba.block R (by omega), b3.block R (by omega)]; exact r2
    · have : j = 0 ∨ j = 1 ∨ j = 2 := by omega
      rcases this with rfl | rfl | rfl <;> exact cell_of_block hnew rfl)
  generalize w3.heap.size = B0 at *
  clear H2 HR3 HF3 HB3
  go_loopw [19] (fun iv wr => ∃ (ns : List Nat) (i : Nat), iv = .int .i64 (ns.length : Int) ∧ ns.length ≤ 3 ∧ RO w wr R B0 pr bs F3 ns i) (fun iv _ => 3 - (intOf iv).toNat)
  case atStart => exact ⟨[], 0, rfl, by simp, HRO.out⟩
  case round =>
    clear HRO
    obtain ⟨ns, i, rfl, hn3, hro⟩ := hrel
    have HRO := mkHid hro
    have he := (hro.bel.cell (World.block_lt_of_cell? w _ HE.out)).trans HE.out
    have HE2 := mkHid he
    clear he
    by_cases hk3 : ns.length < 3
    · obtain ⟨k, hk⟩ : ∃ k, k = ns.length := ⟨_, rfl⟩
      have hp := hro.ps ns.length hk3
      have HK := mkHid hk
      rw [← hk] at hp hk3 ⊢
      have hki : (k : Int) < 3 := by omega
      clear hro hk
      go_wp2_with (first
        | (go_at_call 73; refine (rnum_any F3 wr pr bs i 1099511627776 _ HRO.out.rr hl HE2.out).mono ?_; intro e w5 hpost; rcases hpost with ⟨N, r, hd, _, hN, rfl, hr5, hk5⟩ | ⟨hno, rfl, hr5, hk5⟩ <;> (have HN5 := mkHid (HRO.out.num hk5 hr5); have c5 : w5.cell? ⟨R + 1, k, none⟩ = some (.int .i64 ((ns.getD k 0 : Nat) : Int)) := cell_of_block HN5.out.1 (fcells_at _ _ _ (by rw [HK.out] at *; omega)); have f5 : w5.frozen? ⟨R + 1, k, none⟩ = false := frozen_of_block HN5.out.1; have z0 : w5.cell? ⟨R, 0, none⟩ = some (.int .i64 0) := cell_of_block HN5.out.2.1 rfl; have z1 : w5.cell? ⟨R, 1, none⟩ = some (.int .i64 0) := cell_of_block HN5.out.2.1 rfl; have z2 : w5.cell? ⟨R, 2, none⟩ = some (.int .i64 0) := cell_of_block HN5.out.2.1 rfl; have z3 : w5.cell? ⟨R, 3, none⟩ = some (.slice none 0 0) := cell_of_block HN5.out.2.1 rfl; have y0 : w5.frozen? ⟨R, 0, none⟩ = false := frozen_of_block HN5.out.2.1; have y1 : w5.frozen? ⟨R, 1, none⟩ = false := frozen_of_block HN5.out.2.1; have y2 : w5.frozen? ⟨R, 2, none⟩ = false := frozen_of_block HN5.out.2.1; have y3 : w5.frozen? ⟨R, 3, none⟩ = false := frozen_of_block HN5.out.2.1)))
      · exact ⟨⟨ns ++ [N], i + (enc N).length, by rw [List.length_append, HK.out]; simp, by rw [List.length_append]; rw [HK.out] at hk3; simp; omega, by rw [HK.out]; exact HRO.out.next hk5 hr5 hd (by omega) (by rw [HK.out] at hk3; exact hk3)⟩, by simp [intOf]; omega⟩
      · have hd6 : ((((w5.setCell ⟨R, 0, none⟩ (.int .i64 0)).setCell ⟨R, 1, none⟩ (.int .i64 0)).setCell ⟨R, 2, none⟩ (.int .i64 0)).setCell ⟨R, 3, none⟩ (.slice none 0 0)).heap[R]? = some (.cells #[.int .i64 0, .int .i64 0, .int .i64 0, .slice none 0 0] 92 (0, 0)) := by
          rw [heap_set (heap_set (heap_set (heap_set HN5.out.2.1)))]
          rfl
        refine bodyPost_ret (rec_leaves hd6 _ rfl) rfl ⟨?_, .inr ⟨no_rec HRO.out.eq (by rw [HK.out] at hk3; exact hk3) (fun N s hN => hno N s (by omega) hN), rfl⟩⟩
        have hle : w.heap.size ≤ R := Nat.le_of_eq HR.out.symm
        exact (((HN5.out.2.2.2.setCell (p := ⟨R, 0, none⟩) hle _).setCell (p := ⟨R, 1, none⟩) hle _).setCell (p := ⟨R, 2, none⟩) hle _).setCell (p := ⟨R, 3, none⟩) hle _
    · have hlen : ns.length = 3 := by omega
      have hki : ¬ ((ns.length : Nat) : Int) < 3 := by omega
      have HLen := mkHid hlen
      clear hro hlen
      obtain ⟨g, ep, ix, rfl⟩ : ∃ g ep ix, ns = [g, ep, ix] := by
        match ns, HLen.out with
        | [a, b, c], _ => exact ⟨a, b, c, rfl⟩
      have HBY := mkHid HV.out.1
      go_wp2_with (first
        | (go_at_call 95; refine (rbytes_any F3 wr pr bs i 32768 _ HRO.out.rr hl HE2.out).mono ?_; intro e w5 hpost; rcases hpost with ⟨N, r, v5, hy, rfl, ho5, hr5, hk5⟩ | ⟨v5, hno, rfl, ho5, hr5, hk5⟩ <;> (first | (obtain ⟨D5, hD5⟩ : ∃ D5, D5 = r.take N := ⟨_, rfl⟩; rw [← hD5] at ho5; have HD5 := mkHid hD5; clear hD5; have HY := mkHid hy; clear hy) | skip) <;> (obtain ⟨a5, c5, rfl⟩ := own_shape ho5; have HO5 := mkHid ho5; clear ho5; have HN5 := mkHid (HRO.out.num hk5 hr5); have x0 : w5.cell? ⟨R + 1, 0, none⟩ = some (.int .i64 (g : Int)) := cell_of_block HN5.out.1 rfl; have x1 : w5.cell? ⟨R + 1, 1, none⟩ = some (.int .i64 (ep : Int)) := cell_of_block HN5.out.1 rfl; have x2 : w5.cell? ⟨R + 1, 2, none⟩ = some (.int .i64 (ix : Int)) := cell_of_block HN5.out.1 rfl; have x3 : w5.cell? ⟨R + 1, 3, none⟩ = some (.slice none 0 0) := cell_of_block HN5.out.1 rfl; have f3 : w5.frozen? ⟨R + 1, 3, none⟩ = false := frozen_of_block HN5.out.1; have z0 : w5.cell? ⟨R, 0, none⟩ = some (.int .i64 0) := cell_of_block HN5.out.2.1 rfl; have z1 : w5.cell? ⟨R, 1, none⟩ = some (.int .i64 0) := cell_of_block HN5.out.2.1 rfl; have z2 : w5.cell? ⟨R, 2, none⟩ = some (.int .i64 0) := cell_of_block HN5.out.2.1 rfl; have z3 : w5.cell? ⟨R, 3, none⟩ = some (.slice none 0 0) := cell_of_block HN5.out.2.1 rfl; have y0 : w5.frozen? ⟨R, 0, none⟩ = false := frozen_of_block HN5.out.2.1; have y1 : w5.frozen? ⟨R, 1, none⟩ = false := frozen_of_block HN5.out.2.1; have y2 : w5.frozen? ⟨R, 2, none⟩ = false := frozen_of_block HN5.out.2.1; have y3 : w5.frozen? ⟨R, 3, none⟩ = false := frozen_of_block HN5.out.2.1; have HR5 := mkHid hr5; have HK5 := mkHid hk5; have HE5 := mkHid ((HN5.out.2.2.2.cell (World.block_lt_of_cell? w _ HE.out)).trans HE.out); clear hr5 hk5) <;> (first | (have hyy := HY; clear hyy; rcases (show (i + (enc N).length + N = bs.length) ∨ (i + (enc N).length + N < bs.length) from (by have := HR5.out.2.2.1; omega)) with hz | hz <;> (have HZ := mkHid hz; clear hz)) | skip))
        | (go_at_call 74; first | (refine (end_nil F3 w5 pr bs _ HR5.out hl HZ.out).mono ?_; rintro e w7 ⟨rfl, nq, hw7⟩; rw [hw7]; clear hw7) | (refine (end_err F3 w5 pr bs _ _ HR5.out hl HE5.out HZ.out).mono ?_; rintro e w7 ⟨rfl, nq, hw7⟩; rw [hw7]; clear hw7)))
      · obtain ⟨hd, hN, hNr⟩ := HY.out
        have hi : i ≤ bs.length := by have := HRO.out.rr.2.2.1; omega
        have hlen := (piece_parts hd hi).1
        have hz := HZ.out
        have hNl : N = r.length := by omega
        have hD : D5 = r := by rw [HD5.out, hNl, List.take_length]
        have heq : bs = encs [g, ep, ix] ++ (enc N ++ r) := by rw [← hd]; exact HRO.out.eq
        have hyes := rec_yes heq hNl hN HBY.out HRO.out.le
        have hBr : Byts r := by
          have := HBY.out
          rw [heq] at this
          exact this.right.right
        subst hD
        have k1 := Kept.setCell (F := fun k => k = R + 1) (w5.drewN nq) (p := ⟨R + 1, 3, none⟩) rfl (Value.slice a5 D5.length c5)
        have l2 := (Array.getElem?_eq_some_iff.1 HN5.out.2.1).1
        have e1 : ((w5.drewN nq).setCell ⟨R + 1, 3, none⟩ (.slice a5 D5.length c5)).heap[R]? = some (.cells (fcells [] (.slice none 0 0)) 92 (0, 0)) := by
          rw [k1.block R l2 (by omega)]
          exact HN5.out.2.1
        have hd6 : (((((w5.drewN nq).setCell ⟨R + 1, 3, none⟩ (.slice a5 D5.length c5)).setCell ⟨R, 0, none⟩ (.int .i64 (g : Int))).setCell ⟨R, 1, none⟩ (.int .i64 (ep : Int))).setCell ⟨R, 2, none⟩ (.int .i64 (ix : Int))).setCell ⟨R, 3, none⟩ (.slice a5 D5.length c5) |>.heap[R]? = some (.cells #[.int .i64 (g : Int), .int .i64 (ep : Int), .int .i64 (ix : Int), .slice a5 D5.length c5] 92 (0, 0)) := by
          rw [heap_set (heap_set (heap_set (heap_set e1)))]
          rfl
        have kk : Kept (fun k => k = R ∨ k = R + 1) w5 ((((((w5.drewN nq).setCell ⟨R + 1, 3, none⟩ (.slice a5 D5.length c5)).setCell ⟨R, 0, none⟩ (.int .i64 (g : Int))).setCell ⟨R, 1, none⟩ (.int .i64 (ep : Int))).setCell ⟨R, 2, none⟩ (.int .i64 (ix : Int))).setCell ⟨R, 3, none⟩ (.slice a5 D5.length c5)) :=
          kept_setc (kept_setc (kept_setc (kept_setc (kept_setc (drewN_kept _ w5 nq) (p := ⟨R + 1, 3, none⟩) (Or.inr rfl) _) (p := ⟨R, 0, none⟩) (Or.inl rfl) _) (p := ⟨R, 1, none⟩) (Or.inl rfl) _) (p := ⟨R, 2, none⟩) (Or.inl rfl) _) (p := ⟨R, 3, none⟩) (Or.inl rfl) _
        have hsz := (Array.getElem?_eq_some_iff.1 HRO.out.fd).1
        have hbw := HRO.out.bel.size
        refine bodyPost_ret (rec_leaves hd6 _ rfl) rfl ⟨HN5.out.2.2.2.trans (kk.below (fun k e => by have := HR.out; omega) HN5.out.2.2.2.size), .inl ⟨_, a5, c5, hyes, rfl, (Rd.of_owns hBr HO5.out).kept kk (fun k hk e => ?_), fun k hk => ?_⟩⟩
        · have := (World.ownsRow.lt HO5.out k hk).1
          omega
        · have h1 := (World.ownsRow.lt HO5.out k hk)
          have h2 := kk.size
          omega
      · obtain ⟨hd, hN, hNr⟩ := HY.out
        have hi : i ≤ bs.length := by have := HRO.out.rr.2.2.1; omega
        have hlen := (piece_parts hd hi).1
        have hz := HZ.out
        have hd6 : ((((w5.drewN nq).setCell ⟨R, 0, none⟩ (.int .i64 0)).setCell ⟨R, 1, none⟩ (.int .i64 0)).setCell ⟨R, 2, none⟩ (.int .i64 0)).setCell ⟨R, 3, none⟩ (.slice none 0 0) |>.heap[R]? = some (.cells #[.int .i64 0, .int .i64 0, .int .i64 0, .slice none 0 0] 92 (0, 0)) := by
          rw [heap_set (heap_set (heap_set (heap_set (w := w5.drewN nq) HN5.out.2.1)))]
          rfl
        have hle : w.heap.size ≤ R := Nat.le_of_eq HR.out.symm
        have hb7 : Below w.heap.size w (w5.drewN nq) := HN5.out.2.2.2.trans ((drewN_below w5 nq).mono HN5.out.2.2.2.size)
        refine bodyPost_ret (rec_leaves hd6 _ rfl) rfl ⟨(((hb7.setCell (p := ⟨R, 0, none⟩) hle _).setCell (p := ⟨R, 1, none⟩) hle _).setCell (p := ⟨R, 2, none⟩) hle _).setCell (p := ⟨R, 3, none⟩) hle _, .inr ⟨rec_no3 HRO.out.eq rfl (fun N2 s h2 _ hs => ?_), rfl⟩⟩
        obtain ⟨e1, e2⟩ := enc_free N N2 r s (hd.symm.trans h2)
        subst e1 e2
        omega
      · have hd6 : (((w5.setCell ⟨R, 0, none⟩ (.int .i64 0)).setCell ⟨R, 1, none⟩ (.int .i64 0)).setCell ⟨R, 2, none⟩ (.int .i64 0)).setCell ⟨R, 3, none⟩ (.slice none 0 0) |>.heap[R]? = some (.cells #[.int .i64 0, .int .i64 0, .int .i64 0, .slice none 0 0] 92 (0, 0)) := by
          rw [heap_set (heap_set (heap_set (heap_set HN5.out.2.1)))]
          rfl
        have hle : w.heap.size ≤ R := Nat.le_of_eq HR.out.symm
        exact bodyPost_ret (rec_leaves hd6 _ rfl) rfl ⟨(((HN5.out.2.2.2.setCell (p := ⟨R, 0, none⟩) hle _).setCell (p := ⟨R, 1, none⟩) hle _).setCell (p := ⟨R, 2, none⟩) hle _).setCell (p := ⟨R, 3, none⟩) hle _, .inr ⟨rec_no3 HRO.out.eq rfl (fun N s h1 h2 hs => hno N s ⟨h1, h2, by omega⟩), rfl⟩⟩
end Go.Proofs.YtcbimclgodkflaaDoor
