import Derived.Test.YtaiklaipdocdmaaDoorNpA
import Derived.Test.YtaiklaipdocdmaaDoorOread
import Derived.Test.YtaiklaipdocdmaaDoorOrread
import Derived.Test.YtaiklaipdocdmaaDoorStoreBx
import Derived.Test.YtaiklaipdocdmaaDoorSeal
/- messageOf; which bytes are those of no message. -/
namespace Go.Proofs.YtaiklaipdocdmaaDoor
open Go.ChangeShapes Go.WideShapes Go.ChangeAt Go.RowKit
set_option maxRecDepth 100000
attribute [local go_sem] World.cell?_alloc_some frozen_alloc_some

theorem size_msg : (Tryd.prog.info? 60).map (·.size) = some 9 := by kernel_rfl
theorem one_msg (a0 a1 a2 a3 a4 a5 a6 a7 : Int) (a : Option Addr) (n c : Nat) : (#[Value.int .i64 a0, .int .i64 a1, .int .i64 a2, .int .i64 a3, .int .i64 a4, .int .i64 a5, .int .i64 a6, .int .i64 a7, .slice a n c] : Array Value).all (·.oneCell') = true := by simp [Value.oneCell']
abbrev zM : Mg := ⟨0, 0, 0, 0, 0, 0, 0, 0, []⟩
abbrev oZM : Obj := cM zM (.slice none 0 0)
theorem msg_leaves {W : World} {R : Nat} {p : Tmp} {fn : Func} {m : Mg} {lv : Value} (hf : fn.results = #[.cell p 60]) (hR : W.heap[R]? = some (.cells #[.int .i64 m.kd, .int .i64 m.fr, .int .i64 m.to, .int .i64 m.jb, .int .i64 m.br, .int .i64 m.bn, .int .i64 m.ar, .int .i64 m.an, lv] 60 (0, 0))) (tmps : Array Value) (h2 : tmps.getD p undef = .pointer (some ⟨R, 0, none⟩)) : (results fn tmps).run Tryd.prog W = .ok (vM m lv) W := by
  have hl := run_loadVar_row (P := Tryd.prog) W R 60 60 _ (0, 0) _ hR Tryd.underlying60 rfl size_msg
  rw [results_cell1 hf, h2]
  simp [asAddr, Result.andThen, hl]
theorem results_cell_tmpM {fn : Func} {p u : Tmp} {ty : TypeId} (h : fn.results = #[.cell p ty, .tmp u]) (tmps : Array Value) (P : Program) (w : World) :
    (results fn tmps).run P w = ((asAddr (tmps.getD p undef)).run P w).andThen fun a w₁ => ((loadVar ty a).run P w₁).andThen fun v w₂ => .ok (.tuple #[v, tmps.getD u undef]) w₂ := by
  simp only [results, h]
  simp [Sem.run_bind, Result.andThen]
theorem msg_leaves2 {W : World} {R : Nat} {p u : Tmp} {fn : Func} {m : Mg} {lv : Value} (hf : fn.results = #[.cell p 60, .tmp u]) (hR : W.heap[R]? = some (.cells #[.int .i64 m.kd, .int .i64 m.fr, .int .i64 m.to, .int .i64 m.jb, .int .i64 m.br, .int .i64 m.bn, .int .i64 m.ar, .int .i64 m.an, lv] 60 (0, 0))) (tmps : Array Value) (h2 : tmps.getD p undef = .pointer (some ⟨R, 0, none⟩)) : (results fn tmps).run Tryd.prog W = .ok (.tuple #[vM m lv, tmps.getD u undef]) W := by
  have hl := run_loadVar_row (P := Tryd.prog) W R 60 60 _ (0, 0) _ hR Tryd.underlying60 rfl size_msg
  rw [results_cell_tmpM (p := p) (u := u) (ty := 60) hf, h2]
  simp [asAddr, Result.andThen, hl]
set_option maxHeartbeats 3200000 in
theorem messageOf_any (w : World) (a0 a1 a2 a3 a4 a5 a6 a7 : Int) : Calls Tryd.prog 82 #[.agg #[.int .i64 a0, .int .i64 a1, .int .i64 a2, .int .i64 a3, .int .i64 a4, .int .i64 a5, .int .i64 a6, .int .i64 a7]] w fun r w' => r = .returned (vM ⟨a0, a1, a2, a3, a4, a5, a6, a7, []⟩ (.slice none 0 0)) ∧ Below w.heap.size w w' := by
  go_enter Tryd.func82, Tryd.ntmps82
  go_wp2
  refine bodyPost_ret (msg_leaves (m := ⟨a0, a1, a2, a3, a4, a5, a6, a7, []⟩) (p := 2) rfl (by rw [heap_alloc_old _ _ (by simp), heap_alloc_old _ _ (by simp)]; exact two_of_two w _ _) _ rfl) rfl ⟨rfl, ?_⟩
  exact ba (ba (ba (ba (Below.refl _ w) _) _) _) _
theorem encL_no2 {L M : List Int} {rest t : List Int} {x : Int} (hL : ∀ n ∈ L, 0 ≤ n) (hM : ∀ n ∈ M, 0 ≤ n) (hx : M[L.length]? = some x) (h : encL L ++ rest = encL M ++ t) : ∃ r, rest = enc x.toNat ++ r := by
  have hlt : L.length < M.length := (List.getElem?_eq_some_iff.mp hx).1
  have e : M = M.take L.length ++ M.drop L.length := (List.take_append_drop _ _).symm
  rw [e, encL_append, List.append_assoc] at h
  obtain ⟨h1, h2⟩ := encL_free L (M.take L.length) rest _ hL (fun n hn => hM n (List.mem_of_mem_take hn)) (by simp; omega) h
  have e2 : M.drop L.length = x :: M.drop (L.length + 1) := by
    rw [List.drop_eq_getElem_cons hlt]
    congr 1
    exact (List.getElem?_eq_some_iff.mp hx).2
  rw [e2, encL_cons, List.append_assoc] at h2
  exact ⟨_, h2⟩
/-- Bytes with which none of a message's begin. -/
def NoMs (bs : List Int) : Prop := ∀ m s, (∀ x ∈ mnum m, amt x) → ledF m.ls → bs ≠ bytesM m ++ s
theorem noMs_num {bs M s : List Int} (hM : M.length < 8) (ha : ∀ x ∈ M, amt x) (hd : bs = encL M ++ s) (hno : ∀ (N : Nat) (r : List Int), (N : Int) ≤ 1099511627776 → s ≠ enc N ++ r) : NoMs bs := by
  intro m t hm hl e
  obtain ⟨x, hx⟩ : ∃ x, (mnum m)[M.length]? = some x := ⟨_, List.getElem?_eq_getElem (by show M.length < 8; exact hM)⟩
  have hax := hm x (List.mem_of_getElem? hx)
  rw [hd] at e
  unfold bytesM at e
  rw [List.append_assoc] at e
  obtain ⟨r, hr⟩ := encL_no2 (fun n hn => (ha n hn).1) (fun n hn => (hm n hn).1) hx e
  exact hno x.toNat r (by have := hax.1; have := hax.2; omega) hr
theorem bytesM_split {bs M s t : List Int} {m : Mg} (hM : M.length = 8) (ha : ∀ x ∈ M, amt x) (hd : bs = encL M ++ s) (hm : ∀ x ∈ mnum m, amt x) (e : bs = bytesM m ++ t) : mnum m = M ∧ s = enc (bytesL m.ls).length ++ (bytesL m.ls ++ t) := by
  rw [hd] at e
  unfold bytesM at e
  rw [List.append_assoc] at e
  obtain ⟨h1, h2⟩ := encL_free M (mnum m) _ _ (fun n hn => (ha n hn).1) (fun n hn => (hm n hn).1) (by rw [hM]; rfl) e
  exact ⟨h1.symm, by rw [h2, List.append_assoc]⟩
theorem noMs_piece {bs M s : List Int} {i : Nat} {most : Int} (hM : M.length = 8) (ha : ∀ x ∈ M, amt x) (hd : bs = encL M ++ s) (hi : bs.drop i = s) (hmost : (s.length : Int) ≤ most) (hno : PieceNo bs i most) : NoMs bs := by
  intro m t hm hl e
  obtain ⟨_, h2⟩ := bytesM_split hM ha hd hm e
  refine hno (bytesL m.ls).length (bytesL m.ls ++ t) ⟨by rw [hi, h2], ?_, by rw [List.length_append]; omega⟩
  rw [h2] at hmost
  simp only [List.length_append] at hmost
  omega
theorem noMs_led {bs M s r : List Int} {i N : Nat} {most : Int} (hM : M.length = 8) (ha : ∀ x ∈ M, amt x) (hd : bs = encL M ++ s) (hi : bs.drop i = s) (hp : PieceYes bs i most N r) (hno : NoL (r.take N)) : NoMs bs := by
  intro m t hm hl e
  obtain ⟨_, h2⟩ := bytesM_split hM ha hd hm e
  have h3 := hp.1
  rw [hi, h2] at h3
  obtain ⟨h4, h5⟩ := enc_free _ _ _ _ h3
  refine hno m.ls hl.1 hl.2 ?_
  rw [← h5, ← h4]
  exact List.take_left
theorem bytesM_of {bs M s r : List Int} {i N : Nat} {most : Int} {m : Mg} (hd : bs = encL M ++ s) (hm : mnum m = M) (hi : bs.drop i = s) (hp : PieceYes bs i most N r) (hl : r.take N = bytesL m.ls) : bs = bytesM m ++ r.drop N ∧ N = (bytesL m.ls).length := by
  have hN : N = (bytesL m.ls).length := by rw [← hl, List.length_take]; have := hp.2.2; omega
  have h3 := hp.1
  rw [hi] at h3
  refine ⟨?_, hN⟩
  rw [hd, h3, ← hm]
  unfold bytesM
  rw [← hN, ← hl, List.append_assoc, List.append_assoc, List.take_append_drop]
theorem head8_of (M : List Int) (h : M.length = 8) : ∃ a b c d e f g i, M = [a, b, c, d, e, f, g, i] := by
  match M, h with
  | [a, b, c, d, e, f, g, i], _ => exact ⟨a, b, c, d, e, f, g, i, rfl⟩
end Go.Proofs.YtaiklaipdocdmaaDoor

/- getMessage. -/
namespace Go.Proofs.YtaiklaipdocdmaaDoor
open Go.ChangeShapes Go.WideShapes Go.ChangeAt Go.RowKit
set_option maxRecDepth 100000
attribute [local go_sem] World.cell?_alloc_some frozen_alloc_some

/-- What getMessage answers. -/
def GMPost (F : Nat → Prop) (w : World) (p : Nat) (bs : List Int) (ea : Addr) (r : Ending) (w' : World) : Prop :=
  Kept F w w' ∧ ((∃ m lv qs s, (∀ x ∈ mnum m, amt x) ∧ (∀ t ∈ qs, inF t.1) ∧ qs.length ≤ 64 ∧ fs1 qs = m.ls ∧ bs = bytesM m ++ s ∧ r = .returned (.tuple #[vM m lv, .nilIface]) ∧ Rr F w' p bs (bytesM m).length ∧ Led w.heap.size w' lv qs) ∨ (NoMs bs ∧ ∃ m a n c, r = .returned (.tuple #[vM m (.slice a n c), vErr ea])))
/-- A round of getMessage: the numbers that were read. -/
structure GL (F : Nat → Prop) (w wr : World) (p : Nat) (bs xs : List Int) : Prop where
  rr : Rr F wr p bs (encL xs).length
  arr : wr.heap[w.heap.size + 1]? = some (.cells (arrOf xs 8) 101 (0, 0))
  res : wr.heap[w.heap.size]? = some (.cells #[.int .i64 0, .int .i64 0, .int .i64 0, .int .i64 0, .int .i64 0, .int .i64 0, .int .i64 0, .int .i64 0, .slice none 0 0] 60 (0, 0))
  kp : Kept F w wr
theorem GL.below {F : Nat → Prop} {w wr w' : World} {p : Nat} {bs xs : List Int} (h : GL F w wr p bs xs) (hb : Below wr.heap.size wr w') : GL F w w' p bs xs :=
  ⟨h.rr.below hb, (hb.block _ (lt_of_heap h.arr)).trans h.arr, (hb.block _ (lt_of_heap h.res)).trans h.res, h.kp.trans (kept_of_below hb) (fun k hk => .inr (by have := h.kp.size; omega))⟩
theorem GL.put {F : Nat → Prop} {w wr w1 : World} {p : Nat} {bs xs : List Int} {m : Int} (h : GL F w wr p bs xs) (hF : ∀ k, F k → k < w.heap.size) (hx : xs.length < 8) (hr : Rr F w1 p bs (encL (xs ++ [m])).length) (hk : Kept F wr w1) :
    w1.cell? ⟨w.heap.size + 1, xs.length, none⟩ = some (.int .i64 0) ∧ w1.frozen? ⟨w.heap.size + 1, xs.length, none⟩ = false ∧ GL F w (w1.setCell ⟨w.heap.size + 1, xs.length, none⟩ (.int .i64 m)) p bs (xs ++ [m]) := by
  have hn : ¬ F (w.heap.size + 1) := fun hf => by have := hF _ hf; omega
  have hn2 : ¬ F w.heap.size := fun hf => by have := hF _ hf; omega
  have hb1 := (hk.block _ (lt_of_heap h.arr) hn).trans h.arr
  have hb2 := (hk.block _ (lt_of_heap h.res) hn2).trans h.res
  refine ⟨cell_of_block hb1 (arrOf_at hx), frozen_of_block hb1, ?_, ?_, ?_, ?_⟩
  · exact hr.apart hn _ _
  · have h1 := heap_set (i := xs.length) (v := .int .i64 m) hb1
    rw [arrOf_set hx] at h1
    exact h1
  · have := (Kept.setCell (F := fun k => k = w.heap.size + 1) w1 (p := ⟨w.heap.size + 1, xs.length, none⟩) rfl (.int .i64 m)).block w.heap.size (lt_of_heap hb2) (by omega)
    exact this.trans hb2
  · exact (h.kp.trans hk (fun k f => .inl f)).trans (Kept.setCell (F := fun k => k = w.heap.size + 1) w1 (p := ⟨w.heap.size + 1, xs.length, none⟩) rfl _) (fun k e => .inr (by subst e; omega))
theorem drop_enc {bs M s : List Int} {j m : Nat} (hd : bs = encL M ++ s) (hy : M[j]? = some (m : Int)) : ∃ r, bs.drop (encL (M.take j)).length = enc m ++ r := by
  have hlt : j < M.length := (List.getElem?_eq_some_iff.mp hy).1
  have e1 : M = M.take j ++ ((m : Int) :: M.drop (j + 1)) := by
    conv => lhs; rw [← List.take_append_drop j M]
    congr 1
    rw [List.drop_eq_getElem_cons hlt]
    congr 1
    exact (List.getElem?_eq_some_iff.mp hy).2
  rw [hd]
  conv => enter [1, r, 1, 2, 1]; rw [e1]
  rw [encL_append, encL_cons, List.append_assoc, List.drop_left]
  exact ⟨_, by rw [List.append_assoc]; rfl⟩
theorem xs_byts {F : Nat → Prop} {w : World} {p i j N : Nat} {bs r xs : List Int} {most : Int} (h : Rr F w p bs j) (hy : PieceYes bs i most N r) (hx : xs = r.take N) : Byts xs := by
  obtain ⟨_, _, _, _, hr, _⟩ := h.parts
  have : Byts (enc N ++ r) := by rw [← hy.1]; exact hr.1.drop i
  rw [hx]
  exact this.right.take N
theorem xs_len {i N : Nat} {bs r xs : List Int} {most : Int} (hl : (bs.length : Int) ≤ 140737488355328) (hy : PieceYes bs i most N r) (hx : xs = r.take N) : (xs.length : Int) ≤ 140737488355328 := by
  rw [hx]
  have := hy.take_len
  omega
theorem set_apart {i k b : Nat} (w : World) (x : Value) (hn : i ≠ b) (hi : i < w.heap.size) : (w.setCell ⟨b, k, none⟩ x).heap[i]? = w.heap[i]? :=
  (Kept.setCell (F := fun k => k = b) w (p := ⟨b, k, none⟩) rfl x).block i hi hn
set_option maxHeartbeats 25600000 in
theorem getMessage_any (F : Nat → Prop) (B : Nat) (w : World) (p : Nat) (bs : List Int) (ea es : Addr) (h : Rr F w p bs 0) (hl : (bs.length : Int) ≤ 140737488355328) (he : w.cell? ⟨4, 0, none⟩ = some (vErr ea)) (hes : w.cell? ⟨0, 0, none⟩ = some (vErr es)) (hg : 4 < B) (hB : ∀ k, F k → B ≤ k) :
    Calls Tryd.prog 55 #[.pointer (some ⟨p, 0, none⟩)] w (GMPost F w p bs ea) := by
  have hFlt : ∀ k, F k → k < w.heap.size := h.1
  obtain ⟨M, s, hM8, ha, hd, hno⟩ : ∃ M s, M.length ≤ 8 ∧ (∀ x ∈ M, amt x) ∧ bs = encL M ++ s ∧ (M.length < 8 → ∀ (N : Nat) (r : List Int), (N : Int) ≤ 1099511627776 → s ≠ enc N ++ r) := by
    rcases num_or bs 8 with ⟨M, s, hM, ha, e⟩ | ⟨L, r, hL, ha, e, hr⟩
    · exact ⟨M, s, by omega, ha, e, fun hlt => by omega⟩
    · exact ⟨L, r, by omega, ha, e, fun _ => hr⟩
  have HH := mkHid h
  have HE : Hid (∀ W, Kept F w W → W.cell? ⟨4, 0, none⟩ = some (vErr ea) ∧ W.cell? ⟨0, 0, none⟩ = some (vErr es)) := mkHid (fun W hk => ⟨hk.cell he (fun hf => by have := hB _ hf; simp only at this; omega), hk.cell hes (fun hf => by have := hB _ hf; simp only at this; omega)⟩)
  have HFL := mkHid hFlt
  have HD := mkHid (And.intro ha (And.intro hd hno))
  have HM8 := mkHid hM8
  have HLL := mkHid hl
  clear h he hes hg hB hFlt ha hd hno hM8 hl
  go_enter Tryd.func55, Tryd.ntmps55
  go_wp2
  go_loopw [11] (fun iv wr => ∃ j : Nat, iv = .int .i64 (j : Int) ∧ j ≤ M.length ∧ Hid (GL F w wr p bs (M.take j))) (fun iv _ => 9 - (intOf iv).toNat)
  case atStart =>
    refine ⟨0, rfl, Nat.zero_le _, mkHid ?_⟩
    have b2 : Below w.heap.size w ((w.alloc oZM).alloc (.cells (arrOf [] 8) 101)) := ba (ba (Below.refl _ w) _) _
    refine ⟨by have h := HH.out.below b2; rw [List.take_zero]; exact h, two_of_two w _ _, ?_, below_kept F b2⟩
    rw [heap_alloc_old _ _ (by simp)]
    exact heap_alloc_new w oZM
  case round =>
    obtain ⟨j, rfl, hj, HI⟩ := hrel
    have HLT : Hid ((M.take j).length = j) := mkHid (by rw [List.length_take]; omega)
    by_cases hlt : j < M.length
    · have hji : (j : Int) < 8 := by have := HM8.out; omega
      obtain ⟨y, hy⟩ : ∃ x, M[j]? = some x := ⟨_, List.getElem?_eq_getElem hlt⟩
      obtain ⟨hy0, hy1⟩ := HD.out.1 y (List.mem_of_getElem? hy)
      obtain ⟨m, rfl⟩ := Int.eq_ofNat_of_zero_le hy0
      obtain ⟨r, hr⟩ := drop_enc HD.out.2.1 hy
      have HQ := mkHid (rnum_yes F wr p bs _ 1099511627776 (vErr ea) m r HI.out.rr HLL.out (HE.out _ HI.out.kp).1 hr hy1 (by omega))
      have HT : Hid (M.take (j + 1) = M.take j ++ [(m : Int)]) := mkHid (by rw [List.take_add_one, hy]; rfl)
      clear hy hr hy0 hy1
      go_wp2_with (go_at_call 81; refine HQ.out.mono ?_; rintro e w1 ⟨rfl, q1, q2⟩; have hp := HI.out.put (m := (m : Int)) HFL.out (by rw [HLT.out]; have := HM8.out; omega) (by rw [encL_append, encL_cons, encL_nil, List.append_nil, List.length_append]; exact q1) q2; rw [HLT.out] at hp; obtain ⟨hc1, hf1, hg1⟩ := hp; have HG1 := mkHid hg1; clear hg1 q1 q2)
      go_roundw
      case rel => exact ⟨j + 1, by go_num, by omega, mkHid (by rw [HT.out]; exact HG1.out)⟩
      case measure => simp [intOf]; omega
    · obtain rfl : j = M.length := by omega
      by_cases h8 : M.length < 8
      · have hji : (M.length : Int) < 8 := by omega
        have HQ := mkHid (rnum_no F wr p bs _ 1099511627776 (vErr ea) HI.out.rr HLL.out (HE.out _ HI.out.kp).1 (fun N r hN e => HD.out.2.2 h8 N r hN (by rw [List.take_of_length_le (Nat.le_refl _), HD.out.2.1, List.drop_left] at e; exact e)))
        have HNO : Hid (NoMs bs) := mkHid (noMs_num h8 HD.out.1 HD.out.2.1 (HD.out.2.2 h8))
        go_wp2_with (first
          | (go_at_call 81; refine HQ.out.mono ?_; rintro e w1 ⟨rfl, q1, q2⟩; have hres := (q2.block _ (lt_of_heap HI.out.res) (fun hf => by have := HFL.out _ hf; omega)).trans HI.out.res; have HK1 := mkHid (HI.out.kp.trans q2 (fun k f => .inl f)); clear q1 q2)
          | (refine wpList_store_box rfl 60 (.tmp 2) (.tmp 21) rfl w.heap.size #[.int .i64 0, .int .i64 0, .int .i64 0, .int .i64 0, .int .i64 0, .int .i64 0, .int .i64 0, .int .i64 0, .slice none 0 0] rfl rfl 60 _ hres size_msg rfl (one_msg _ _ _ _ _ _ _ _ _ _ _) ?_; intro w3 h3 k3))
        exact bodyPost_ret (msg_leaves2 (m := zM) rfl h3 _ rfl) rfl ⟨HK1.out.trans k3 (fun k e => .inr (by subst e; omega)), .inr ⟨HNO.out, zM, none, 0, 0, rfl⟩⟩
      · have h8' : M.length = 8 := by have := HM8.out; omega
        obtain ⟨a0, a1, a2, a3, a4, a5, a6, a7, hMe⟩ := head8_of M h8'
        have hj8 : ¬ (M.length : Int) < 8 := by omega
        have hgl := HI.out
        rw [List.take_of_length_le (Nat.le_refl _)] at hgl
        have harr := hgl.arr
        rw [arrOf_full h8'] at harr
        have HM := mkHid (And.intro h8' hMe)
        rw [hMe] at harr
        have e0 := cell_of_block (i := 0) harr rfl
        have e1 := cell_of_block (i := 1) harr rfl
        have e2 := cell_of_block (i := 2) harr rfl
        have e3 := cell_of_block (i := 3) harr rfl
        have e4 := cell_of_block (i := 4) harr rfl
        have e5 := cell_of_block (i := 5) harr rfl
        have e6 := cell_of_block (i := 6) harr rfl
        have e7 := cell_of_block (i := 7) harr rfl
        have HG := mkHid hgl
        have HDR : Hid (bs.drop (encL M).length = s ∧ (s.length : Int) ≤ (bs.length : Int) - (encL M).length) := mkHid ⟨by rw [HD.out.2.1, List.drop_left], by rw [HD.out.2.1, List.length_append]; omega⟩
        clear hgl harr h8' hMe
        go_wp2_with (first
          | (go_at_call 82; refine (messageOf_any wr a0 a1 a2 a3 a4 a5 a6 a7).mono ?_; rintro r w2 ⟨rfl, b2⟩; have HG2 : Hid (GL F w (w2.alloc (cM ⟨a0, a1, a2, a3, a4, a5, a6, a7, []⟩ (.slice none 0 0))) p bs M) := mkHid (HG.out.below ((b2.alloc (Nat.le_trans b2.size (Nat.le_refl _)) _))); have HS2 : Hid (w.heap.size + 1 < w2.heap.size) := mkHid (lt_of_heap (HG.out.below b2).arr); clear b2 e0 e1 e2 e3 e4 e5 e6 e7)
          | (go_at_call 84; refine (left_any F _ p bs _ HG2.out.rr HLL.out).mono ?_; rintro r w3 ⟨rfl, nq, hw3⟩; have b3 : Below (w2.alloc (cM ⟨a0, a1, a2, a3, a4, a5, a6, a7, []⟩ (.slice none 0 0))).heap.size (w2.alloc (cM ⟨a0, a1, a2, a3, a4, a5, a6, a7, []⟩ (.slice none 0 0))) w3 := (by rw [hw3]; exact drb (Below.refl _ _) nq); have HG3 := mkHid (HG2.out.below b3); have HM3 := mkHid (msg_late ⟨a0, a1, a2, a3, a4, a5, a6, a7, []⟩ (.slice none 0 0) b3); clear b3 hw3)
          | (go_at_call 83; refine (rbytes_any F w3 p bs _ _ (vErr ea) HG3.out.rr HLL.out (HE.out _ HG3.out.kp).1).mono ?_; rintro r w4 hp; rcases hp with ⟨N, r0, v, hy, rfl, ho, hrr, hk⟩ | ⟨v, hno, rfl, ho, hrr, hk⟩ <;> first | (obtain ⟨xs, hxs⟩ : ∃ xs, xs = r0.take N := ⟨_, rfl⟩; rw [← hxs] at ho; obtain ⟨va, vc, rfl⟩ := own_shape ho; have HP := mkHid (And.intro hrr (And.intro hk (HG3.out.kp.trans hk (fun k f => .inl f)))); have HY := mkHid (And.intro hy (And.intro ho hxs)); clear hrr hk ho hxs hy) | (obtain ⟨va, vc, rfl⟩ := own_shape ho; have HP := mkHid (And.intro hrr (And.intro hk (HG3.out.kp.trans hk (fun k f => .inl f)))); have HN : Hid (NoMs bs) := mkHid (noMs_piece HM.out.1 HD.out.1 HD.out.2.1 HDR.out.1 HDR.out.2 hno); have hres := (HP.out.2.1.block _ (lt_of_heap HG3.out.res) (fun hf => by have := HFL.out _ hf; omega)).trans HG3.out.res; clear hrr hk ho))
          | (go_at_call 85; refine (read_any w4 _ xs ea es (Rd.of_owns (xs_byts HG3.out.rr HY.out.1 HY.out.2.2) HY.out.2.1) (xs_len HLL.out HY.out.1 HY.out.2.2) (HE.out _ HP.out.2.2).1 (HE.out _ HP.out.2.2).2).mono ?_; rintro r w5 ⟨b5, hp5⟩; have hm5 := (b5.block _ (lt_of_heap ((HP.out.2.1.block _ (lt_of_heap HM3.out) (fun hf => by have := HFL.out _ hf; have := HS2.out; omega)).trans HM3.out))).trans ((HP.out.2.1.block _ (lt_of_heap HM3.out) (fun hf => by have := HFL.out _ hf; have := HS2.out; omega)).trans HM3.out); have hr5 := (b5.block _ (lt_of_heap ((HP.out.2.1.block _ (lt_of_heap HG3.out.res) (fun hf => by have := HFL.out _ hf; omega)).trans HG3.out.res))).trans ((HP.out.2.1.block _ (lt_of_heap HG3.out.res) (fun hf => by have := HFL.out _ hf; omega)).trans HG3.out.res); obtain ⟨q0, q1, q2, q3, q4, q5, q6, q7, q8⟩ := msg_cells hm5; have f8 : w5.frozen? ⟨w2.heap.size, 8, none⟩ = false := frozen_of_block hm5; have HR5 : Hid (∀ x, (w5.setCell ⟨w2.heap.size, 8, none⟩ x).heap[w.heap.size]? = some (.cells #[.int .i64 0, .int .i64 0, .int .i64 0, .int .i64 0, .int .i64 0, .int .i64 0, .int .i64 0, .int .i64 0, .slice none 0 0] 60 (0, 0))) := mkHid (fun x => (set_apart w5 x (by have := HS2.out; omega) (lt_of_heap hr5)).trans hr5); have HB5 := mkHid b5; clear hm5 hr5 b5; rcases hp5 with ⟨lv, qs, hin, h64, hbl, rfl, hled⟩ | ⟨hnol, rfl⟩ <;> first | (obtain ⟨la, lc, rfl, _⟩ := own_sh hled.own; have HYES := mkHid (And.intro hin (And.intro h64 (And.intro hbl hled))); clear hin h64 hbl hled) | (have HN : Hid (NoMs bs) := mkHid (noMs_led HM.out.1 HD.out.1 HD.out.2.1 HDR.out.1 HY.out.1 (by rw [← HY.out.2.2]; exact hnol)); clear hnol))
          | (refine wpList_store_box rfl 60 (.tmp 2) (.tmp 38) rfl w.heap.size #[.int .i64 0, .int .i64 0, .int .i64 0, .int .i64 0, .int .i64 0, .int .i64 0, .int .i64 0, .int .i64 0, .slice none 0 0] rfl rfl 60 _ hres size_msg rfl (one_msg _ _ _ _ _ _ _ _ _ _ _) ?_; intro w9 h9 k9; have HK9 : Hid (Kept F w w9) := mkHid (HP.out.2.2.trans k9 (fun k e => .inr (by subst e; omega))))
          | (refine wpList_store_box rfl 60 (.tmp 2) (.tmp 46) rfl w.heap.size #[.int .i64 a0, .int .i64 a1, .int .i64 a2, .int .i64 a3, .int .i64 a4, .int .i64 a5, .int .i64 a6, .int .i64 a7, .slice la qs.length lc] rfl rfl 60 _ (HR5.out _) size_msg rfl (one_msg _ _ _ _ _ _ _ _ _ _ _) ?_; intro w9 h9 k9)
          | (refine wpList_store_box rfl 60 (.tmp 2) (.tmp 46) rfl w.heap.size #[.int .i64 a0, .int .i64 a1, .int .i64 a2, .int .i64 a3, .int .i64 a4, .int .i64 a5, .int .i64 a6, .int .i64 a7, .slice none 0 0] rfl rfl 60 _ (HR5.out _) size_msg rfl (one_msg _ _ _ _ _ _ _ _ _ _ _) ?_; intro w9 h9 k9))
        · have kA : Kept (fun k => k = w2.heap.size ∨ k = w.heap.size) w5 w9 := ((Kept.setCell (F := fun k => k = w2.heap.size) w5 (p := ⟨w2.heap.size, 8, none⟩) rfl _).mono (fun k h => Or.inl h)).trans (k9.mono (fun k h => Or.inr h)) (fun k h => .inl h)
          have hs2 := HS2.out
          have hmm : mnum ⟨a0, a1, a2, a3, a4, a5, a6, a7, fs1 qs⟩ = M := HM.out.2.symm
          have hbm := bytesM_of (m := ⟨a0, a1, a2, a3, a4, a5, a6, a7, fs1 qs⟩) HD.out.2.1 hmm HDR.out.1 HY.out.1 (by rw [← HY.out.2.2]; exact HYES.out.2.2.1)
          have hlen : (bytesM ⟨a0, a1, a2, a3, a4, a5, a6, a7, fs1 qs⟩).length = (encL M).length + (enc N).length + N := by
            unfold bytesM
            rw [hmm, List.length_append, List.length_append, ← hbm.2]
            omega
          refine bodyPost_ret (msg_leaves2 (m := ⟨a0, a1, a2, a3, a4, a5, a6, a7, fs1 qs⟩) rfl h9 _ rfl) rfl ⟨(HP.out.2.2.trans (below_kept F HB5.out) (fun k f => .inl f)).trans kA (fun k e => .inr (by rcases e with e | e <;> omega)), .inl ⟨⟨a0, a1, a2, a3, a4, a5, a6, a7, fs1 qs⟩, _, qs, r0.drop N, ?_, HYES.out.1, HYES.out.2.1, rfl, hbm.1, rfl, ?_, ?_⟩⟩
          · rw [hmm]; exact HD.out.1
          · rw [hlen]
            exact (HP.out.1.below HB5.out).kept kA (fun k f e => by have := HFL.out k f; rcases e with e | e <;> omega)
          · have hw4 : w.heap.size ≤ w4.heap.size := HP.out.2.2.size
            have hw42 : w2.heap.size < w4.heap.size := by have h1 := lt_of_heap HM3.out; have h2 := HP.out.2.1.size; omega
            exact (HYES.out.2.2.2.kept kA (fun k e => .inl (by rcases e with e | e <;> omega))).up hw4
        · have hs2 := HS2.out
          exact bodyPost_ret (msg_leaves2 (m := ⟨a0, a1, a2, a3, a4, a5, a6, a7, []⟩) rfl h9 _ rfl) rfl ⟨((HP.out.2.2.trans (below_kept F HB5.out) (fun k f => .inl f)).trans (Kept.setCell (F := fun k => k = w2.heap.size) w5 (p := ⟨w2.heap.size, 8, none⟩) rfl _) (fun k e => .inr (by omega))).trans k9 (fun k e => .inr (by omega)), .inr ⟨HN.out, _, none, 0, 0, rfl⟩⟩
        · exact bodyPost_ret (msg_leaves2 (m := zM) rfl h9 _ rfl) rfl ⟨HK9.out, .inr ⟨HN.out, zM, none, 0, 0, rfl⟩⟩
end Go.Proofs.YtaiklaipdocdmaaDoor

/- Get of a message. -/
namespace Go.Proofs.YtaiklaipdocdmaaDoor
open Go.ChangeShapes Go.WideShapes Go.ChangeAt Go.RowKit
set_option maxRecDepth 100000
attribute [local go_sem] World.cell?_alloc_some frozen_alloc_some

/-- What Get answers. -/
def MGetPost (w : World) (bs : List Int) (ea eu : Addr) (r : Ending) (w' : World) : Prop :=
  Below w.heap.size w w' ∧ ((∃ m lv qs, inM m ∧ fs1 qs = m.ls ∧ bs = sealM m ∧ r = .returned (.tuple #[vM m lv, .nilIface]) ∧ Led w.heap.size w' lv qs) ∨ ((∃ xs, bs = xs ++ sumb (fnv xs) ∧ NoM xs) ∧ r = .returned (.tuple #[vM zM (.slice none 0 0), vErr ea])) ∨ (bs.length < 4 ∧ r = .returned (.tuple #[vM zM (.slice none 0 0), vErr ea])) ∨ ((∃ xs ys, bs = xs ++ ys ∧ ys.length = 4 ∧ ys ≠ sumb (fnv xs)) ∧ r = .returned (.tuple #[vM zM (.slice none 0 0), vErr eu])))
theorem res0 {w w1 : World} (hb : Below (w.alloc oZM).heap.size (w.alloc oZM) w1) : w1.heap[w.heap.size]? = some (.cells #[.int .i64 0, .int .i64 0, .int .i64 0, .int .i64 0, .int .i64 0, .int .i64 0, .int .i64 0, .int .i64 0, .slice none 0 0] 60 (0, 0)) :=
  msg_late zM (.slice none 0 0) hb
theorem msg_frozen {w : World} {b : Nat} {cs : Array Value} (h : w.heap[b]? = some (.cells cs 60 (0, 0))) : w.frozen? ⟨b, 0, none⟩ = false ∧ w.frozen? ⟨b, 1, none⟩ = false ∧ w.frozen? ⟨b, 2, none⟩ = false ∧ w.frozen? ⟨b, 3, none⟩ = false ∧ w.frozen? ⟨b, 4, none⟩ = false ∧ w.frozen? ⟨b, 5, none⟩ = false ∧ w.frozen? ⟨b, 6, none⟩ = false ∧ w.frozen? ⟨b, 7, none⟩ = false ∧ w.frozen? ⟨b, 8, none⟩ = false :=
  ⟨frozen_of_block h, frozen_of_block h, frozen_of_block h, frozen_of_block h, frozen_of_block h, frozen_of_block h, frozen_of_block h, frozen_of_block h, frozen_of_block h⟩
abbrev set9 (w : World) (b : Nat) (v0 v1 v2 v3 v4 v5 v6 v7 v8 : Value) : World := ((((((((w.setCell ⟨b, 0, none⟩ v0).setCell ⟨b, 1, none⟩ v1).setCell ⟨b, 2, none⟩ v2).setCell ⟨b, 3, none⟩ v3).setCell ⟨b, 4, none⟩ v4).setCell ⟨b, 5, none⟩ v5).setCell ⟨b, 6, none⟩ v6).setCell ⟨b, 7, none⟩ v7).setCell ⟨b, 8, none⟩ v8
theorem set9_heap {w : World} {b : Nat} {c0 c1 c2 c3 c4 c5 c6 c7 c8 : Value} {ty : TypeId} (h : w.heap[b]? = some (.cells #[c0, c1, c2, c3, c4, c5, c6, c7, c8] ty (0, 0))) (v0 v1 v2 v3 v4 v5 v6 v7 v8 : Value) : (set9 w b v0 v1 v2 v3 v4 v5 v6 v7 v8).heap[b]? = some (.cells #[v0, v1, v2, v3, v4, v5, v6, v7, v8] ty (0, 0)) := by
  unfold set9
  rw [heap_set (heap_set (heap_set (heap_set (heap_set (heap_set (heap_set (heap_set (heap_set h))))))))]
  kernel_rfl
theorem set9_below {w w' : World} (h0 : Below w.heap.size w w') {b : Nat} (hb0 : w.heap.size ≤ b) (v0 v1 v2 v3 v4 v5 v6 v7 v8 : Value) : Below w.heap.size w (set9 w' b v0 v1 v2 v3 v4 v5 v6 v7 v8) := by
  have h : Kept (fun k => w.heap.size ≤ k) w w' := below_kept _ h0
  have hb : (fun k => w.heap.size ≤ k) b ∨ w.heap.size ≤ b := .inl hb0
  exact (((kset (kset (kset (kset (kset (kset (kset (kset (kset h hb 0 v0) hb 1 v1) hb 2 v2) hb 3 v3) hb 4 v4) hb 5 v5) hb 6 v6) hb 7 v7) hb 8 v8)).below (fun _ h => h) (Nat.le_refl _))
/-- What stands where Get refuses. -/
structure RZ (w W : World) (ea : Addr) : Prop where
  res : W.heap[w.heap.size]? = some (.cells #[.int .i64 0, .int .i64 0, .int .i64 0, .int .i64 0, .int .i64 0, .int .i64 0, .int .i64 0, .int .i64 0, .slice none 0 0] 60 (0, 0))
  ce : W.cell? ⟨4, 0, none⟩ = some (vErr ea)
  bel : Below w.heap.size w W
theorem RZ.of {w W : World} {ea : Addr} (hb : Below (w.alloc oZM).heap.size (w.alloc oZM) W) (he : w.cell? ⟨4, 0, none⟩ = some (vErr ea)) : RZ w W ea :=
  ⟨res0 hb, kc he (bt (ba (Below.refl _ w) _) hb), bt (ba (Below.refl _ w) _) hb⟩
set_option maxHeartbeats 6400000 in
theorem getM_short (w : World) (v : Value) (bs : List Int) (ea eu : Addr) (h : Rd w v bs) (hl : bs.length < 4) (he : w.cell? ⟨4, 0, none⟩ = some (vErr ea)) : Calls Tryd.prog 26 #[v] w (MGetPost w bs ea eu) := by
  have HC := mkHid (open_short (w.alloc oZM) v bs (vErr ea) (h.alloc _) hl (kl he _))
  have HL := mkHid hl
  clear h he hl
  go_enter Tryd.func26, Tryd.ntmps26
  go_wp2_with (first
    | (go_at_call 53; refine HC.out.mono ?_; rintro r w1 ⟨rfl, b1⟩; have hres := res0 b1; have HB1 := mkHid (bt (ba (Below.refl _ w) _) b1); clear b1)
    | (refine wpList_store_box rfl 60 (.tmp 2) (.tmp 15) rfl w.heap.size #[.int .i64 0, .int .i64 0, .int .i64 0, .int .i64 0, .int .i64 0, .int .i64 0, .int .i64 0, .int .i64 0, .slice none 0 0] rfl rfl 60 _ hres size_msg rfl (one_msg _ _ _ _ _ _ _ _ _ _ _) ?_; intro w9 h9 k9))
  exact bodyPost_ret (msg_leaves2 (m := zM) rfl h9 _ rfl) rfl ⟨HB1.out.trans (k9.below (fun k e => by omega) (HB1.out.size)), .inr (.inr (.inl ⟨HL.out, rfl⟩))⟩
set_option maxHeartbeats 6400000 in
theorem getM_bad (w : World) (b off cap n : Nat) (xs ys : List Int) (ea eu : Addr) (hx : xs.length = n) (hy : ys.length = 4) (h : Rd w (.slice (some ⟨b, off, none⟩) (n + 4 : Nat) cap) (xs ++ ys)) (hl : (n : Int) ≤ 140737488355320) (hne : ys ≠ sumb (fnv xs)) (he : w.cell? ⟨1, 0, none⟩ = some (vErr eu)) : Calls Tryd.prog 26 #[.slice (some ⟨b, off, none⟩) (n + 4 : Nat) cap] w (MGetPost w (xs ++ ys) ea eu) := by
  have HC := mkHid (open_bad (w.alloc oZM) b off cap n xs ys (vErr eu) hx hy (h.alloc _) hl hne (kl he _))
  have HN := mkHid (And.intro hy hne)
  clear h he hl hx hy hne
  go_enter Tryd.func26, Tryd.ntmps26
  go_wp2_with (first
    | (go_at_call 53; refine HC.out.mono ?_; rintro r w1 ⟨rfl, b1⟩; have hres := res0 b1; have HB1 := mkHid (bt (ba (Below.refl _ w) _) b1); clear b1)
    | (refine wpList_store_box rfl 60 (.tmp 2) (.tmp 15) rfl w.heap.size #[.int .i64 0, .int .i64 0, .int .i64 0, .int .i64 0, .int .i64 0, .int .i64 0, .int .i64 0, .int .i64 0, .slice none 0 0] rfl rfl 60 _ hres size_msg rfl (one_msg _ _ _ _ _ _ _ _ _ _ _) ?_; intro w9 h9 k9))
  exact bodyPost_ret (msg_leaves2 (m := zM) rfl h9 _ rfl) rfl ⟨HB1.out.trans (k9.below (fun k e => by omega) (HB1.out.size)), .inr (.inr (.inr ⟨⟨xs, ys, rfl, HN.out.1, HN.out.2⟩, rfl⟩))⟩
theorem noM_rest {m n : Mg} {qs : List Ep} {xs s : List Int} (hm : ∀ x ∈ mnum m, amt x) (hin : ∀ t ∈ qs, inF t.1) (hbs : xs = bytesM m ++ s) (hf : inM n) (e : xs = bytesM n) (hls : fs1 qs = m.ls := by rfl) : m = n ∧ s = [] := by
  rw [hbs] at e
  unfold bytesM at e
  rw [List.append_assoc] at e
  obtain ⟨h1, h2⟩ := encL_free (mnum m) (mnum n) _ _ (fun x hx => (hm x hx).1) hf.pos rfl e
  rw [List.append_assoc] at h2
  obtain ⟨h3, h4⟩ := enc_free _ _ _ _ h2
  have hlen : (bytesL m.ls).length = (bytesL n.ls).length := h3
  have h5 : bytesL m.ls ++ s = bytesL n.ls ++ [] := by rw [List.append_nil]; exact h4
  obtain ⟨h6, h7⟩ := List.append_inj h5 hlen
  refine ⟨mnum_inj h1 (bytesL_inj (fun e he => ?_) hf.led.2 h6), h7⟩
  rw [← hls] at he
  obtain ⟨t, ht, rfl⟩ := List.mem_map.mp he
  exact hin t ht
set_option maxHeartbeats 25600000 in
theorem getM_good (w : World) (b off cap n : Nat) (xs ys : List Int) (ea eu es : Addr) (hx : xs.length = n) (hy : ys.length = 4) (h : Rd w (.slice (some ⟨b, off, none⟩) (n + 4 : Nat) cap) (xs ++ ys)) (hl : (n : Int) ≤ 140737488355320) (hq : ys = sumb (fnv xs)) (he : w.cell? ⟨4, 0, none⟩ = some (vErr ea)) (hes : w.cell? ⟨0, 0, none⟩ = some (vErr es)) : Calls Tryd.prog 26 #[.slice (some ⟨b, off, none⟩) (n + 4 : Nat) cap] w (MGetPost w (xs ++ ys) ea eu) := by
  have HX : Hid (Byts xs) := mkHid h.1.left
  have HC := mkHid (open_good (w.alloc oZM) b off cap n xs ys hx hy (h.alloc _) hl hq)
  have HE := mkHid he
  have HES := mkHid hes
  have HQ := mkHid hq
  have HL : Hid ((xs.length : Int) ≤ 140737488355328) := mkHid (by omega)
  have hn1 : ¬ 4 = w.heap.size := by have := World.block_lt_of_cell? w _ he; simp only at this; omega
  have hn2 : ¬ w.heap.size = 4 := fun e => hn1 e.symm
  have HGB : Hid (4 < (w.alloc oZM).heap.size) := mkHid (by have := World.block_lt_of_cell? w _ he; simp only at this; simp; omega)
  clear h he hes hq hl hx hy
  go_enter Tryd.func26, Tryd.ntmps26
  go_wp2_with (first
    | (go_at_call 53; refine HC.out.mono ?_; rintro r w1 ⟨v1, rfl, ho1, b1⟩; obtain ⟨va, vc, rfl⟩ := own_shape ho1; have HO1 := mkHid (Rd.of_owns HX.out ho1); have HB1 : Hid (Below (w.alloc oZM).heap.size (w.alloc oZM) w1) := mkHid b1; clear b1 ho1)
    | (go_at_call 54; refine (newReader_any w1 _ xs HO1.out HL.out).mono ?_; rintro r w2 ⟨p, F, rfl, hr2, hF2, b2⟩; have HR2 := mkHid hr2; have HF2 := mkHid hF2; have HB2 := mkHid (bt HB1.out b2); clear hr2 hF2 b2)
    | (go_at_call 55; refine (getMessage_any F w1.heap.size w2 p xs ea es HR2.out HL.out (kc HE.out (bt (ba (Below.refl _ w) _) HB2.out)) (kc HES.out (bt (ba (Below.refl _ w) _) HB2.out)) (Nat.lt_of_lt_of_le HGB.out HB1.out.size) HF2.out).mono ?_; rintro r w3 ⟨hk3, ⟨m, lv, qs, s, hm, hin, h64, hls, hbs, rfl, hrr, hled⟩ | ⟨hno, m, na, nn, nc, rfl⟩⟩ <;> have HB3 : Hid (Below (w.alloc oZM).heap.size (w.alloc oZM) w3) := mkHid (HB2.out.trans (hk3.below (fun k f => Nat.le_trans HB1.out.size (HF2.out k f)) HB2.out.size)) <;> first | (obtain ⟨la, lc, rfl, _⟩ := own_sh hled.own; obtain ⟨a0, a1, a2, a3, a4, a5, a6, a7, ls⟩ := m; simp only at hls; subst hls; simp only [vM]; have HW3 : Hid (w.heap.size ≤ w2.heap.size) := mkHid (by have := HB2.out.size; simp at this; omega); have HY := mkHid (And.intro hm (And.intro hin (And.intro h64 (And.intro hbs (And.intro hrr hled))))); by_cases hs : s = [] <;> have HS := mkHid hs <;> clear hm hin h64 hbs hrr hled hk3 hs) | (obtain ⟨a0, a1, a2, a3, a4, a5, a6, a7, ls⟩ := m; simp only [vM]; have HNO : Hid (NoM xs) := mkHid (fun m hf e => hno m [] hf.amts hf.led (by rw [List.append_nil]; exact e)); have HZ := mkHid (RZ.of (ba HB3.out (cM ⟨a0, a1, a2, a3, a4, a5, a6, a7, ls⟩ (.slice na nn nc))) HE.out); obtain ⟨r0, r1, r2, r3, r4, r5, r6, r7, r8⟩ := msg_cells HZ.out.res; obtain ⟨f0, f1, f2, f3, f4, f5, f6, f7, f8⟩ := msg_frozen HZ.out.res; have ce := HZ.out.ce; clear hk3 hno))
    | (go_at_call 56; refine (end_nil F _ p xs _ (HY.out.2.2.2.2.1.below ((Below.refl _ w3).alloc (Nat.le_refl _) _)) HL.out (by rw [HY.out.2.2.2.1, HS.out, List.append_nil])).mono ?_; rintro r w5 ⟨rfl, nq, hw5⟩; have b5 : Below (w3.alloc (cM ⟨a0, a1, a2, a3, a4, a5, a6, a7, fs1 qs⟩ (.slice la qs.length lc))).heap.size (w3.alloc (cM ⟨a0, a1, a2, a3, a4, a5, a6, a7, fs1 qs⟩ (.slice la qs.length lc))) w5 := (by rw [hw5]; exact drb (Below.refl _ _) nq); obtain ⟨q0, q1, q2, q3, q4, q5, q6, q7, q8⟩ := msg_cells (msg_late _ _ b5); have HB5 := mkHid b5; clear b5 hw5)
    | (go_at_call 56; refine (end_err F _ p xs _ (vErr ea) (HY.out.2.2.2.2.1.below ((Below.refl _ w3).alloc (Nat.le_refl _) _)) HL.out (kl (kc HE.out (bt (ba (Below.refl _ w) _) HB3.out)) _) (by have h1 := congrArg List.length HY.out.2.2.2.1; have h2 := List.length_pos_iff.mpr HS.out; rw [List.length_append] at h1; omega)).mono ?_; rintro r w5 ⟨rfl, nq, hw5⟩; have b5 : Below (w3.alloc (cM ⟨a0, a1, a2, a3, a4, a5, a6, a7, fs1 qs⟩ (.slice la qs.length lc))).heap.size (w3.alloc (cM ⟨a0, a1, a2, a3, a4, a5, a6, a7, fs1 qs⟩ (.slice la qs.length lc))) w5 := (by rw [hw5]; exact drb (Below.refl _ _) nq); have HNO : Hid (NoM xs) := mkHid (fun m hf e => HS.out (noM_rest HY.out.1 HY.out.2.1 HY.out.2.2.2.1 hf e).2); have HZ := mkHid (RZ.of (bt (ba HB3.out _) b5) HE.out); obtain ⟨r0, r1, r2, r3, r4, r5, r6, r7, r8⟩ := msg_cells HZ.out.res; obtain ⟨f0, f1, f2, f3, f4, f5, f6, f7, f8⟩ := msg_frozen HZ.out.res; have ce := HZ.out.ce; clear b5 hw5)
    | (go_at_call 22; by_cases hf : inM ⟨a0, a1, a2, a3, a4, a5, a6, a7, fs1 qs⟩ <;> first | (refine (checkM_any w5 ⟨a0, a1, a2, a3, a4, a5, a6, a7, fs1 qs⟩ _ qs es ((HY.out.2.2.2.2.2.below (bt (ba (Below.refl _ w3) _) HB5.out)).ens (by have := HY.out.2.2.1; omega) (fun t ht => by have := (HY.out.2.1 t ht).2.1.1; omega)) rfl (kc HES.out (bt (bt (ba (Below.refl _ w) _) (ba HB3.out _)) HB5.out)) .nilIface (.inl ⟨hf, rfl⟩)).mono ?_; rintro r w6 ⟨rfl, b6⟩; clear q0 q1 q2 q3 q4 q5 q6 q7 q8; obtain ⟨q0, q1, q2, q3, q4, q5, q6, q7, q8⟩ := msg_cells (msg_late _ _ (bt HB5.out b6)); have hres := res0 (bt (bt (ba HB3.out _) HB5.out) b6); have HF6 := mkHid hf; have HB6 := mkHid (bt HB5.out b6); clear b6 hf) | (refine (checkM_any w5 ⟨a0, a1, a2, a3, a4, a5, a6, a7, fs1 qs⟩ _ qs es ((HY.out.2.2.2.2.2.below (bt (ba (Below.refl _ w3) _) HB5.out)).ens (by have := HY.out.2.2.1; omega) (fun t ht => by have := (HY.out.2.1 t ht).2.1.1; omega)) rfl (kc HES.out (bt (bt (ba (Below.refl _ w) _) (ba HB3.out _)) HB5.out)) (vErr es) (.inr ⟨hf, rfl⟩)).mono ?_; rintro r w6 ⟨rfl, b6⟩; have HNO : Hid (NoM xs) := mkHid (fun m hf2 e => hf (by rw [(noM_rest HY.out.1 HY.out.2.1 HY.out.2.2.2.1 hf2 e).1]; exact hf2)); have HZ := mkHid (RZ.of (bt (bt (ba HB3.out _) HB5.out) b6) HE.out); obtain ⟨r0, r1, r2, r3, r4, r5, r6, r7, r8⟩ := msg_cells HZ.out.res; obtain ⟨f0, f1, f2, f3, f4, f5, f6, f7, f8⟩ := msg_frozen HZ.out.res; have ce := HZ.out.ce; clear b6 hf))
    | (refine wpList_store_box rfl 60 (.tmp 2) (.tmp 38) rfl w.heap.size #[.int .i64 a0, .int .i64 a1, .int .i64 a2, .int .i64 a3, .int .i64 a4, .int .i64 a5, .int .i64 a6, .int .i64 a7, .slice la qs.length lc] rfl rfl 60 _ hres size_msg rfl (one_msg _ _ _ _ _ _ _ _ _ _ _) ?_; intro w9 h9 k9))
  · have hsz : w.heap.size < w2.heap.size := by have := HB2.out.size; simp at this; omega
    have hb36 := (ba (Below.refl _ w3) (cM ⟨a0, a1, a2, a3, a4, a5, a6, a7, fs1 qs⟩ (.slice la qs.length lc)))
    have hxs : xs = bytesM ⟨a0, a1, a2, a3, a4, a5, a6, a7, fs1 qs⟩ := by rw [HY.out.2.2.2.1, HS.out, List.append_nil]
    have hbb := bt (bt (ba (Below.refl _ w) _) (ba HB3.out (cM ⟨a0, a1, a2, a3, a4, a5, a6, a7, fs1 qs⟩ (.slice la qs.length lc)))) HB6.out
    exact bodyPost_ret (msg_leaves2 (m := ⟨a0, a1, a2, a3, a4, a5, a6, a7, fs1 qs⟩) rfl h9 _ rfl) rfl ⟨hbb.trans (k9.below (fun k e => by omega) hbb.size), .inl ⟨⟨a0, a1, a2, a3, a4, a5, a6, a7, fs1 qs⟩, _, qs, HF6.out, rfl, by unfold sealM; rw [HQ.out, ← hxs], rfl, ((HY.out.2.2.2.2.2.below (bt hb36 HB6.out)).kept k9 (fun k e => .inl (by omega))).up HW3.out⟩⟩
  all_goals go_region
  all_goals go_wp2
  all_goals exact bodyPost_ret (msg_leaves2 (m := zM) rfl (dh (set9_heap HZ.out.res (.int .i64 0) (.int .i64 0) (.int .i64 0) (.int .i64 0) (.int .i64 0) (.int .i64 0) (.int .i64 0) (.int .i64 0) (.slice none 0 0))) _ rfl) rfl ⟨(set9_below HZ.out.bel (Nat.le_refl _) (.int .i64 0) (.int .i64 0) (.int .i64 0) (.int .i64 0) (.int .i64 0) (.int .i64 0) (.int .i64 0) (.int .i64 0) (.slice none 0 0)).drew, .inr (.inl ⟨⟨xs, by rw [HQ.out], HNO.out⟩, rfl⟩)⟩
end Go.Proofs.YtaiklaipdocdmaaDoor

