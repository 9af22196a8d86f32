/- takeOut, Drop, Deliver. -/
import Derived.Test.YtaiklaipdocdmaaDoorNt4
namespace Go.Proofs.YtaiklaipdocdmaaDoor
open Go.ChangeShapes Go.WideShapes Go.ChangeAt Go.RowKit
set_option maxRecDepth 100000
attribute [local go_sem] World.cell?_alloc_some frozen_alloc_some

theorem erase_map {α β : Type} (f : α → β) : ∀ (xs : List α) (j : Nat), (xs.eraseIdx j).map f = (xs.map f).eraseIdx j
  | [], _ => rfl
  | x :: r, 0 => rfl
  | x :: r, j + 1 => by simp [erase_map f r j]
/-- What a call of a net leaves: only its box and its row were written. -/
structure NR (own : Nat → Int × Int) (i : Int) (w : World) (p : Nat) (w' : World) (own' : Nat → Int × Int) (v' : Value) (ps' : List Lp) (n' : Nt) : Prop where
  nb : NB own' i w' p v' ps' n'
  old : ∀ k, k < w.heap.size → own' k = own k
  new : ∀ k, w.heap.size ≤ k → own' k = (0, 0) ∨ (own' k).1 = i
  kp : Kept (fun k => own k = (i, 1) ∨ own k = (i, 2)) w w'
theorem NB.num_ne {own : Nat → Int × Int} {i : Int} {w : World} {p : Nat} {v : Value} {ps : List Lp} {n : Nt} (h : NB own i w p v ps n) {l : Lp} (hl : l ∈ ps) {k : Nat} (hk : own k = (i, 2 + l.1.nu)) : own k ≠ (i, 1) ∧ own k ≠ (i, 2) := by
  have := (h.num hl).1
  rw [hk]
  constructor
  · intro e; simp only [Prod.mk.injEq, true_and] at e; omega
  · intro e; simp only [Prod.mk.injEq, true_and] at e; omega
theorem NB.below' {own : Nat → Int × Int} {i : Int} {w w' : World} {p : Nat} {v : Value} {ps : List Lp} {n : Nt} (h : NB own i w p v ps n) (hb : Below w.heap.size w w') : NR own i w p w' own v ps n :=
  ⟨h.below hb, fun _ _ => rfl, fun k hk => .inl (h.sz k hk), kept_new hb⟩
theorem NR.trans {own own1 own2 : Nat → Int × Int} {i : Int} {w w1 w2 : World} {p : Nat} {v1 v2 : Value} {ps1 ps2 : List Lp} {n1 n2 : Nt} (h1 : NR own i w p w1 own1 v1 ps1 n1) (h2 : NR own1 i w1 p w2 own2 v2 ps2 n2) : NR own i w p w2 own2 v2 ps2 n2 := by
  have hs := h1.kp.size
  refine ⟨h2.nb, fun k hk => by rw [h2.old k (by omega), h1.old k hk], fun k hk => ?_, h1.kp.trans h2.kp (fun k e => ?_)⟩
  · by_cases hlt : k < w1.heap.size
    · rw [h2.old k hlt]; exact h1.new k hk
    · exact h2.new k (by omega)
  · by_cases hlt : k < w.heap.size
    · rw [h1.old k hlt] at e; exact .inl e
    · exact .inr (by omega)
/-- The row without one letter, written into the box. -/
theorem NB.took {own : Nat → Int × Int} {i : Int} {w w1 : World} {p g cap J : Nat} {ps : List Lp} {n : Nt} (h : NB own i w p (.slice (some ⟨g, 0, none⟩) ps.length cap) ps n) (ho : w1.ownsRow 0 50 4 (.slice (some ⟨g, 0, none⟩) (ps.length - 1) cap) (ps.length - 1) ((ps.eraseIdx J).flatMap cl)) (hk : Kept (fun k => k = g) w w1) (hJ : J < ps.length) :
    NR own i w p (w1.setCell ⟨p, 0, none⟩ (.slice (some ⟨g, 0, none⟩) (ps.length - 1) cap)) own (.slice (some ⟨g, 0, none⟩) (ps.length - 1) cap) (ps.eraseIdx J) (n.out J) := by
  have hg : own g = (i, 2) := h.ov g rfl
  have hpg : p ≠ g := fun e => by have := h.op; rw [e, hg] at this; simp at this
  have hpb := (hk.block p h.lt (fun e => hpg e)).trans h.blk
  have kA : Kept (fun k => k = g ∨ k = p) w (w1.setCell ⟨p, 0, none⟩ (.slice (some ⟨g, 0, none⟩) (ps.length - 1) cap)) :=
    (hk.mono (fun k e => Or.inl e)).trans ((Kept.setCell (F := fun k => k = p) w1 (p := ⟨p, 0, none⟩) rfl _).mono (fun k e => Or.inr e)) (fun k e => .inl e)
  have hlen : (ps.eraseIdx J).length = ps.length - 1 := by rw [List.length_eraseIdx]; simp [hJ]
  have hsub : ∀ l ∈ ps.eraseIdx J, l ∈ ps := fun l hl => List.mem_of_mem_eraseIdx hl
  refine ⟨⟨?_, ?_, ?_, h.op, fun k e => by simp [Value.ownBlock] at e; subst e; exact hg, fun l hl => ?_, fun l hl => h.ob l (hsub l hl), fun k hs => h.sz k (Nat.le_trans kA.size hs), h.one, h.ok.out J⟩, fun _ _ => rfl, fun k hs => .inl (h.sz k hs), kA.mono (fun k e => by rcases e with rfl | rfl; exact .inr hg; exact .inl h.op)⟩
  · have := heap_set (i := 0) (v := .slice (some ⟨g, 0, none⟩) (ps.length - 1) cap) hpb
    exact this
  · rw [hlen]
    exact ownN_kept ho (Kept.setCell (F := fun k => k = p) w1 (p := ⟨p, 0, none⟩) rfl _) (fun k e e2 => by simp [Value.ownBlock] at e; omega)
  · show (ps.eraseIdx J).map (·.1) = n.ls.eraseIdx J
    rw [← h.eq, erase_map]
  · refine (h.bys l (hsub l hl)).kept kA (fun k e e2 => ?_)
    have := h.num_ne (hsub l hl) (h.ob l (hsub l hl) k e)
    rcases e2 with rfl | rfl
    · exact this.2 hg
    · exact this.1 h.op
set_option maxHeartbeats 6400000 in
theorem takeOut_is (own : Nat → Int × Int) (i : Int) (w : World) (p : Nat) (v : Value) (ps : List Lp) (n : Nt) (h : NB own i w p v ps n) (J : Nat) (hJ : J < ps.length) :
    Calls Tryd.prog 40 #[.pointer (some ⟨p, 0, none⟩), .int .i64 (J : Int)] w fun e w' => e = .returned (.tuple #[]) ∧ ∃ v', NR own i w p w' own v' (ps.eraseIdx J) (n.out J) := by
  obtain ⟨g, cap, rfl, _, _⟩ := own_addr h.row hJ
  have hl4 : ps.length ≤ 4096 := by have := h.ok.len; have := h.len; omega
  have HD := mkHid (delL_is 0 w g cap J ps h.row hl4 hJ)
  obtain ⟨c0, _, f0, _⟩ := h.cells
  have hpg : p ≠ g := fun e => by have h1 := h.op; have h2 := h.ov g rfl; rw [e, h2] at h1; simp at h1
  have HN := mkHid h
  have HPG := mkHid hpg
  have HJ := mkHid hJ
  have hj1 : (J : Int) + 1 ≤ 9223372036854775807 := by omega
  clear hl4 h hpg hJ
  go_enter Tryd.func40, Tryd.ntmps40
  go_wp2_with (go_at_call 72; refine HD.out.mono ?_; rintro r w1 ⟨rfl, ho1, hk1⟩; have c1 := hk1.cell c0 HPG.out; have hb1 := (hk1.block p HN.out.lt HPG.out).trans HN.out.blk; have f1 : w1.frozen? ⟨p, 0, none⟩ = false := frozen_of_block hb1; have HR := mkHid (HN.out.took ho1 hk1 HJ.out); clear ho1 hk1 hb1)
  first | go_end0 | refine bodyPost_ret (results_none rfl _ _ _) rfl ?_
  exact ⟨rfl, _, HR.out⟩
set_option maxHeartbeats 6400000 in
theorem drop_is (own : Nat → Int × Int) (i : Int) (w : World) (p : Nat) (v : Value) (ps : List Lp) (n : Nt) (h : NB own i w p v ps n) (t : Int) (eg : Addr) (he : w.cell? ⟨2, 0, none⟩ = some (vE eg)) :
    Calls Tryd.prog 16 #[.pointer (some ⟨p, 0, none⟩), .int .i64 t] w fun e w' => (n.find t = none ∧ e = .returned (vE eg) ∧ Below w.heap.size w w') ∨ (∃ K v', n.find t = some K ∧ e = .returned .nilIface ∧ NR own i w p w' own v' (ps.eraseIdx K) (n.out K)) := by
  have HF := mkHid (find_is own i w p v ps n h t eg he)
  have HN := mkHid h
  obtain ⟨a, cap, rfl, _⟩ := h.shape
  clear h he
  go_enter Tryd.func16, Tryd.ntmps16
  go_wp2_with (first
    | (go_at_call 39; refine HF.out.mono ?_; rintro r w1 ⟨b1, ⟨K, hK, rfl⟩ | ⟨hK, rfl⟩⟩ <;> have HB1 := mkHid b1 <;> have HK := mkHid hK <;> clear b1 hK)
    | (go_at_call 40; refine (takeOut_is own i w1 p _ ps n (HN.out.below HB1.out) K (by obtain ⟨l, h1, _, h2, _⟩ := find_some HK.out; rw [HN.out.len]; exact h2)).mono ?_; rintro r w2 ⟨rfl, v2, hr2⟩; have HR := mkHid ((HN.out.below' HB1.out).trans hr2); clear hr2))
  · go_ret
    exact .inr ⟨K, _, HK.out, rfl, HR.out⟩
  · go_ret
    exact .inl ⟨HK.out, rfl, HB1.out⟩
abbrev zL : Value := .agg #[.int .i64 0, .int .i64 0, .int .i64 0, .slice none 0 0]
abbrev oL (x : Lp) : Obj := .cells #[.int .i64 x.1.nu, .int .i64 x.1.fr, .int .i64 x.1.to, bv x] 50
abbrev oZL : Obj := .cells #[.int .i64 0, .int .i64 0, .int .i64 0, .slice none 0 0] 50
theorem size_let : (Tryd.prog.info? 50).map (·.size) = some 4 := by kernel_rfl
theorem one_let (a b c : Int) (x : Option Addr) (n m : Nat) : (#[Value.int .i64 a, .int .i64 b, .int .i64 c, .slice x n m] : Array Value).all (·.oneCell') = true := by simp [Value.oneCell']
/-- What Deliver answers. -/
def DelP (own : Nat → Int × Int) (i : Int) (w : World) (p : Nat) (ps : List Lp) (n : Nt) (t : Int) (eg : Addr) (e : Ending) (w' : World) : Prop :=
  (n.find t = none ∧ e = .returned (.tuple #[zL, vE eg]) ∧ Below w.heap.size w w') ∨ (∃ (K : Nat) (l : Lp) (v' : Value), n.find t = some K ∧ ps[K]? = some l ∧ e = .returned (.tuple #[vL l, .nilIface]) ∧ Rd w' (bv l) l.1.bs ∧ NR own i w p w' own v' (ps.eraseIdx K) (n.out K))
set_option maxHeartbeats 6400000 in
theorem deliver_is (own : Nat → Int × Int) (i : Int) (w : World) (p : Nat) (v : Value) (ps : List Lp) (n : Nt) (h : NB own i w p v ps n) (t : Int) (eg : Addr) (he : w.cell? ⟨2, 0, none⟩ = some (vE eg)) :
    Calls Tryd.prog 17 #[.pointer (some ⟨p, 0, none⟩), .int .i64 t] w (DelP own i w p ps n t eg) := by
  have b0 : Below w.heap.size w (w.alloc oZL) := ba (Below.refl _ w) _
  have HF := mkHid (find_is own i (w.alloc oZL) p v ps n (h.below b0) t eg (kc he b0))
  have HN := mkHid h
  obtain ⟨a, cap, rfl, _⟩ := h.shape
  clear h he b0
  go_enter Tryd.func17, Tryd.ntmps17
  go_wp2_with (first
    | (go_at_call 39; refine HF.out.mono ?_; rintro r w1 ⟨b1, ⟨K, hK, rfl⟩ | ⟨hK, rfl⟩⟩ <;> have HB1 := mkHid (bt (ba (Below.refl _ w) _) b1) <;> have HK := mkHid hK <;> have hR1 : w1.heap[w.heap.size]? = some (.cells #[.int .i64 0, .int .i64 0, .int .i64 0, .slice none 0 0] 50 (0, 0)) := (b1.block _ (by simp)).trans (heap_alloc_new w oZL) <;> have HR1 := mkHid hR1 <;> first | (obtain ⟨l0, h1, _, h2, _⟩ := find_some HK.out; obtain ⟨l, hl, _⟩ := HN.out.ps h1; obtain ⟨c0, _, _, _⟩ := (HN.out.below HB1.out).cells; obtain ⟨g, off, rfl, k0, k1, k2, k3⟩ := (HN.out.below HB1.out).at hl; obtain ⟨⟨nu, fr, to, bs⟩, la, lc⟩ := l; simp only [bv] at k0 k1 k2 k3; have hKl : (K : Int) < (ps.length : Int) := (by rw [HN.out.len]; omega); have HL := mkHid hl; clear b1 hK hl h1 h2 hR1) | clear b1 hK)
    | (go_at_call 40; refine (takeOut_is own i (w1.alloc (oL (⟨nu, fr, to, bs⟩, la, lc))) p _ ps n (HN.out.below (ba HB1.out _)) K (by omega)).mono ?_; rintro r w2 ⟨rfl, v2, hr2⟩; have HR := mkHid hr2; have hLb := (hr2.kp.block w1.heap.size (by simp) (fun e => by have := HN.out.sz w1.heap.size HB1.out.size; rw [this] at e; have := HN.out.one; rcases e with e | e <;> simp at e <;> omega)).trans (heap_alloc_new w1 (oL (⟨nu, fr, to, bs⟩, la, lc))); have hRb := (hr2.kp.block w.heap.size (by have := lt_of_heap HR1.out; simp; omega) (fun e => by have := HN.out.sz w.heap.size (Nat.le_refl _); rw [this] at e; have := HN.out.one; rcases e with e | e <;> simp at e <;> omega)).trans ((heap_alloc_old _ _ (lt_of_heap HR1.out)).trans HR1.out); have l0 : w2.cell? ⟨w1.heap.size, 0, none⟩ = some (.int .i64 nu) := cell_of_block (i := 0) hLb rfl; have l1 : w2.cell? ⟨w1.heap.size, 1, none⟩ = some (.int .i64 fr) := cell_of_block (i := 1) hLb rfl; have l2 : w2.cell? ⟨w1.heap.size, 2, none⟩ = some (.int .i64 to) := cell_of_block (i := 2) hLb rfl; have l3 : w2.cell? ⟨w1.heap.size, 3, none⟩ = some (.slice la bs.length lc) := cell_of_block (i := 3) hLb rfl; clear hr2 hLb c0 k0 k1 k2 k3)
    | (refine wpList_store_box rfl 50 (.tmp 4) (.tmp 17) rfl w.heap.size #[.int .i64 0, .int .i64 0, .int .i64 0, .slice none 0 0] rfl rfl 50 _ hR1 size_let rfl (one_let _ _ _ _ _ _) ?_; intro w9 h9 k9)
    | (refine wpList_store_box rfl 50 (.tmp 4) (.tmp 29) rfl w.heap.size #[.int .i64 nu, .int .i64 fr, .int .i64 to, .slice la bs.length lc] rfl rfl 50 _ hRb size_let rfl (one_let _ _ _ _ _ _) ?_; intro w9 h9 k9))
  · have hne : ∀ k, (own k = (i, 1) ∨ own k = (i, 2)) → k ≠ w.heap.size := fun k e e2 => by
      subst e2
      have h0 := HN.out.sz w.heap.size (Nat.le_refl _)
      have h1 := HN.out.one
      rw [h0] at e
      rcases e with e | e <;> simp at e <;> omega
    have hb0 : Below w.heap.size w (w1.alloc (oL (⟨nu, fr, to, bs⟩, la, lc))) := ba HB1.out _
    have k9' : Below w2.heap.size w2 w2 := Below.refl _ _
    have hnb2 := (HN.out.below' hb0).trans HR.out
    have hnb : NR own i w p w9 own v2 (ps.eraseIdx K) (n.out K) := ⟨hnb2.nb.kept k9 (fun k e => by subst e; have h0 := HN.out.sz w.heap.size (Nat.le_refl _); have h1 := HN.out.one; rw [h0]; exact ⟨fun e => h1 (Prod.mk.inj e).1.symm, fun e => h1 (Prod.mk.inj e).1.symm, fun l _ e => h1 (Prod.mk.inj e).1.symm⟩), hnb2.old, hnb2.new, hnb2.kp.trans k9 (fun k e => .inr (by subst e; exact Nat.le_refl _))⟩
    have hmem := List.mem_of_getElem? HL.out
    have hrd : Rd w9 (.slice la bs.length lc) bs := by
      have h1 := HN.out.bys _ hmem
      have h2 := h1.kept hnb.kp (fun k e e2 => by
        have h3 := HN.out.num_ne hmem (HN.out.ob _ hmem k e)
        rcases e2 with e2 | e2
        · exact h3.1 e2
        · exact h3.2 e2)
      exact h2
    exact bodyPost_ret (leavesCT rfl h9 Tryd.underlying50 size_let _ rfl) rfl (.inr ⟨K, (⟨nu, fr, to, bs⟩, la, lc), v2, HK.out, HL.out, rfl, hrd, hnb⟩)
  · exact bodyPost_ret (leavesCT rfl h9 Tryd.underlying50 size_let _ rfl) rfl (.inl ⟨HK.out, rfl, HB1.out.trans (k9.below (fun k e => by omega) HB1.out.size)⟩)
end Go.Proofs.YtaiklaipdocdmaaDoor
