/- The document's queue: Sorted. -/
import Derived.Test.YtjlmkmhggkcbhaaDoorQref3
namespace Go.Proofs.YtjlmkmhggkcbhaaDoor
open Go.ChangeShapes Go.WideShapes Go.ChangeAt Go.RowKit
set_option maxRecDepth 100000

def lenOf : Value → Nat
  | .slice _ n _ => n
  | _ => 0
theorem own_src {w : World} {sv : Value} {V : List Th} {base : Nat} (h : w.ownsRow base 52 2 sv V.length (tcs V)) : Src Tryd.prog 2 28 sv V.length (tcs V) w := by
  rcases h.2 with ⟨rfl, h0⟩ | ⟨g, cap, cur, rfl, hb, hg, rest⟩
  · have hv : V = [] := List.eq_nil_of_length_eq_zero h0
    subst hv
    exact Src.ofNil w Tryd.underlying28 0
  · exact Src.ofSlice w Tryd.underlying28 _ _ cap _ (by rw [tcs_len]) (h.cells (g := g) rfl) (tcs_one V)
theorem srtd_pop {L : List Th} {b : Nat} (h : IsFst L b) : srtd L = gt L b :: srtd (L.eraseIdx b) := by
  have hp : (gt L b :: L.eraseIdx b).Perm L := by
    have e : L = L.take b ++ (gt L b :: L.drop (b + 1)) := by
      rw [gt_get h.1, ← List.drop_eq_getElem_cons h.1, List.take_append_drop]
    rw [List.eraseIdx_eq_take_drop_succ]
    conv => rhs; rw [e]
    exact List.perm_middle.symm
  refine (srtd_is (((srtd_perm _).cons _).trans hp) (Srt.of_pairwise (List.pairwise_cons.mpr ⟨fun z hz => ?_, (srtd_srt _).pairwise⟩))).symm
  have hz' : z ∈ L := List.mem_of_mem_eraseIdx ((srtd_perm _).mem_iff.mp hz)
  obtain ⟨i, hi, rfl⟩ := mem_gt.mp hz'
  exact h.2 i hi
theorem own_ts {w : World} {base : Nat} {v : Value} {ys : List Th} (h : w.ownsRow base 52 2 v ys.length (tcs ys)) : TS w v ys := by
  obtain ⟨a, c, rfl⟩ := own_shape h
  refine ⟨a, c, rfl, fun hp => ?_⟩
  have h' := h
  rcases h.2 with ⟨h0, h1⟩ | ⟨g, cap, cur, h0, hb, hg, rest⟩
  · omega
  · simp at h0
    obtain ⟨rfl, rfl⟩ := h0
    refine ⟨g, rfl, fun i hi => ?_⟩
    obtain ⟨a1, a2⟩ := tcs_at ys i hi
    have h1 := h'.cells (g := g) rfl (i * 2) _ a1
    have h2 := h'.cells (g := g) rfl (i * 2 + 1) _ a2
    rw [add_none, Nat.zero_add] at h1 h2
    exact ⟨h1, h2⟩
/-- The loop of Sorted: what is left, what is out. -/
structure SoSt (w wr : World) (cb : Nat) (ov : Value) (L La Lo : List Th) : Prop where
  r : ∃ G, Rq G wr cb La ∧ (∀ k, G k → w.heap.size ≤ k) ∧ ∀ k, ov.ownBlock = some k → ¬ G k
  o : wr.ownsRow w.heap.size 52 2 ov Lo.length (tcs Lo)
  s : Lo ++ srtd La = srtd L
  l : La.length + Lo.length = L.length
  b : Below w.heap.size w wr
set_option maxHeartbeats 3200000 in
theorem sorted_is (G : Nat → Prop) (w : World) (q : Nat) (L : List Th) (h : Rq G w q L) (hl : L.length ≤ 4096) :
    Calls Tryd.prog 34 #[.pointer (some ⟨q, 0, none⟩)] w fun e w' => ∃ a c, e = .returned (.slice a L.length c) ∧ Hid (TS w' (.slice a L.length c) (srtd L) ∧ Below w.heap.size w w') := by
  obtain ⟨ie, hie⟩ : ∃ ie, Hid (Tryd.prog.info? 52 = some ie ∧ ie.zero = some zth ∧ ie.size = 2 ∧ ie.bytes = 16) := by
    obtain ⟨ie, h1, h2, h3, h4⟩ := info_parts infoTh
    exact ⟨ie, mkHid ⟨h1, h2, h3, h4⟩⟩
  obtain ⟨hG, hq, sv, hd, hsv, ho⟩ := h
  obtain ⟨sa, sc, rfl⟩ := own_shape ho
  have q0 : w.cell? ⟨q, 0, none⟩ = some (.slice sa L.length sc) := cell_of_block hd rfl
  have HO := mkHid ho
  have HL := mkHid hl
  have p0 := bcell ((Below.refl _ w).alloc (Nat.le_refl _) (.cells #[] 52)) q0
  clear hG hq hd hsv ho hl q0
  have M1 : Hid True := mkHid trivial
  go_enter Tryd.func34, Tryd.ntmps34
  go_wp2_with (first
    | (at_builtin; clear M1; have hm := World.ownsRow_made (base := w.heap.size) (e := 52) (size := 2) w #[] 0 (Nat.le_refl _) (by unfold maxLen; omega) rfl; refine wpList_append_src2 _ rfl (.tmp 7) (.tmp 11) 28 28 rfl w.heap.size 52 ie Tryd.underlying28 hie.out.1 zth 16 hie.out.2.1 rfl hie.out.2.2.1 hie.out.2.2.2 (.slice (some ⟨w.heap.size, 0, none⟩) 0 0) 0 [] rfl hm (.slice sa L.length sc) L.length (tcs L) rfl (own_src (HO.out.alloc _)) (by have := HL.out; unfold maxLen; omega) (by have := HL.out; omega) (by simp) ?_; intro v4 w4 ho4 hg4 hat4; rw [Nat.zero_add, List.nil_append] at ho4; have HO4 := mkHid ho4; have HB4 := mkHid (((Below.refl _ w).alloc (Nat.le_refl _) (.cells #[] 52)).grown hg4 (by simp) (fun k hk => by simp [Value.ownBlock] at hk; omega)); obtain ⟨a4, c4, rfl⟩ := own_shape ho4; clear hm ho4 hg4 hat4))
  obtain ⟨cb, hcb⟩ : ∃ cb, cb = w4.heap.size := ⟨_, rfl⟩
  obtain ⟨W1, hW1⟩ : ∃ W1, W1 = (w4.alloc (.cells #[.slice a4 L.length c4] 30)).alloc (.cells #[] 52) := ⟨_, rfl⟩
  have HST : Hid (SoSt w W1 cb (.slice (some ⟨w4.heap.size + 1, 0, none⟩) 0 0) L L []) := mkHid (by
    have hb1 : Below w4.heap.size w4 (w4.alloc (.cells #[.slice a4 L.length c4] 30)) := (Below.refl _ w4).alloc (Nat.le_refl _) _
    have hb2 : Below (w4.heap.size + 1) (w4.alloc (.cells #[.slice a4 L.length c4] 30)) W1 := by rw [hW1]; exact (Below.refl _ _).alloc (by simp) _
    have hs4 := HB4.out.size
    have hsW : W1.heap.size = w4.heap.size + 2 := by rw [hW1]; simp
    refine ⟨⟨fun k => k = cb ∨ (Value.slice a4 L.length c4).ownBlock = some k, ⟨fun k hk => ?_, .inl rfl, .slice a4 L.length c4, ?_, fun k hk => ⟨.inr hk, by have := (HO4.out.lt k hk).2; omega⟩, ?_⟩, fun k hk => ?_, fun k hk e => ?_⟩, ?_, rfl, by simp, (HB4.out.trans (hb1.mono hs4)).trans (hb2.mono (by omega))⟩
    · rcases hk with hk | hk
      · omega
      · have := (HO4.out.lt k hk).2; omega
    · rw [hb2.block cb (by omega), hcb]
      exact heap_alloc_new w4 _
    · have := own_keep HO4.out (kept_of_below (hb1.trans (hb2.mono (by omega)))) (fun k hk h => by have := (HO4.out.lt k hk).2; omega)
      refine ⟨this.1, this.2.imp (fun h => h) ?_⟩
      rintro ⟨g', cap', cur, e, hb', rest⟩
      exact ⟨g', cap', cur, e, Nat.zero_le _, rest⟩
    · rcases hk with hk | hk
      · omega
      · exact (HO4.out.lt k hk).1
    · simp [Value.ownBlock] at hk
      rcases e with e | e
      · omega
      · have := (HO4.out.lt k e).2; omega
    · have := World.ownsRow_made (base := w.heap.size) (e := 52) (size := 2) (w4.alloc (.cells #[.slice a4 L.length c4] 30)) #[] 0 (by simp; omega) (by unfold maxLen; omega) rfl
      rw [hW1]
      simpa [tcs] using this)
  rw [← hcb, ← hW1]
  rw [← hcb] at HST
  clear hcb hW1 HO4 HB4 HO p0
  go_loopw [4] (fun ov wr => ∃ (La Lo : List Th) (a : Option Addr) (c : Nat), ov = .slice a Lo.length c ∧ SoSt w wr cb ov L La Lo) (fun ov _ => L.length - lenOf ov)
  case atStart => exact ⟨L, [], _, _, rfl, HST.out⟩
  case round =>
    clear HST
    obtain ⟨La, Lo, a, c, rfl, hS⟩ := hrel
    obtain ⟨G1, g1, g2, g3⟩ := hS.r
    obtain ⟨a1, c1, q1, _, hv⟩ := g1.view
    have HS := mkHid hS
    have HG1 := mkHid g1
    have HG2 := mkHid g2
    have HG3 := mkHid g3
    have HLL : Hid (La.length ≤ 4096 ∧ Lo.length ≤ 4096) := mkHid (by have := hS.l; have := HL.out; omega)
    clear hS g1 g2 g3 hv
    by_cases hp : 0 < La.length
    · have hpi : (0 : Int) < La.length := by omega
      go_wp2_with (first
        | (go_at_call 29; refine (rpop_some G1 wr cb La HG1.out hp HLL.out.1).mono ?_; rintro e w2 ⟨b, rfl, h2⟩; have HF := mkHid h2.out.1; have H2 := mkHid h2.out.2; obtain ⟨x, hx⟩ : ∃ x, x = gt La b := ⟨_, rfl⟩; have HX := mkHid hx; rw [← hx]; obtain ⟨G2, k1, k2, k3⟩ := h2.out.2; have HO2 : Hid (w2.ownsRow w.heap.size 52 2 (.slice a Lo.length c) Lo.length (tcs Lo)) := mkHid (own_keep HS.out.o k3 HG3.out); have hs2 := k3.size; have HS2 := mkHid hs2; clear h2 hx k1 k2 k3 hs2)
        | (at_builtin; refine wpList_append_src2 _ rfl (.tmp 27) (.tmp 29) 28 28 rfl w.heap.size 52 ie Tryd.underlying28 hie.out.1 zth 16 hie.out.2.1 rfl hie.out.2.2.1 hie.out.2.2.2 (.slice a Lo.length c) Lo.length (tcs Lo) rfl ((HO2.out.alloc _).alloc _) (.slice (some ⟨w2.heap.size + 1, 0, none⟩) 1 1) 1 (tc x) rfl (by have := srcTh (w2.alloc (.cells #[.int .i64 x.1, .int .i64 x.2] 52)) x; simpa using this) (by have := HLL.out; unfold maxLen; omega) (by have := HLL.out; omega) (by have := HS2.out; have := HS.out.b.size; simp; omega) ?_; intro v5 w5 ho5 hg5 hat5; have HO5 := mkHid ho5; have HG5 := mkHid hg5; have HA5 := mkHid hat5; obtain ⟨a5, c5, rfl⟩ := own_shape ho5; clear ho5 hg5 hat5))
      go_roundw
      case rel =>
        obtain ⟨G2, k1, k2, k3⟩ := H2.out
        have hb4 : Below w2.heap.size w2 ((w2.alloc (.cells #[.int .i64 x.1, .int .i64 x.2] 52)).alloc (.cells #[.int .i64 x.1, .int .i64 x.2] 52)) := ((Below.refl _ w2).alloc (Nat.le_refl _) _).alloc (by simp) _
        have k5 : Kept (fun k => (Value.slice a Lo.length c).ownBlock = some k) w2 w5 := (kept_below _ hb4).trans (Kept.grown HG5.out (fun k hk => hk)) (fun _ h => .inl h)
        have hsr := HS.out.b.size
        have hs2 := HS2.out
        have hs5 := k5.size
        have hlt : ∀ k, (Value.slice a Lo.length c).ownBlock = some k → w.heap.size ≤ k ∧ k < wr.heap.size := fun k hk => HS.out.o.lt k hk
        have hnG : ∀ k, G2 k → ¬ (Value.slice a Lo.length c).ownBlock = some k := fun k hk e => by
          rcases k2 k hk with h | h
          · exact HG3.out k e h
          · have := (hlt k e).2; omega
        refine ⟨La.eraseIdx b, Lo ++ [x], a5, c5, by rw [List.length_append]; rfl, ⟨⟨G2, k1.kept k5 hnG, fun k hk => (k2 k hk).elim (HG2.out k) (fun h => by omega), fun k hk f => ?_⟩, ?_, ?_, ?_, ?_⟩⟩
        · rcases HA5.out with e | e
          · rw [e] at hk
            exact hnG k f hk
          · rw [e] at hk
            have := k1.1 k f
            simp at hk
            omega
        · have := HO5.out
          rw [tcs_append, List.length_append]
          have e : tcs [x] = tc x := by simp [tcs]
          rw [e]
          exact this
        · rw [← HS.out.s, srtd_pop HF.out, ← HX.out]
          simp
        · have h1 := HS.out.l
          have h2 := HF.out.1
          rw [List.length_eraseIdx, if_pos h2, List.length_append]
          simp
          omega
        · exact (HS.out.b.trans (k3.below HG2.out hsr)).trans (k5.below (fun k e => (hlt k e).1) (by omega))
      case measure =>
        have h1 := HS.out.l
        simp [lenOf]
        omega
    · have hz : La = [] := List.eq_nil_of_length_eq_zero (by omega)
      subst hz
      simp only [List.length_nil] at q1
      go_wp2
      go_ret
      have h1 := HS.out.l
      have h2 := HS.out.s
      simp at h1
      have h3 : Lo = srtd L := by rw [← h2]; simp [srtd]
      rw [← h1]
      refine ⟨a, c, rfl, ?_, HS.out.b⟩
      rw [← h3]
      exact own_ts HS.out.o
end Go.Proofs.YtjlmkmhggkcbhaaDoor
