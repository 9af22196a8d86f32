/- The document's Least: by popping. -/
import Derived.Test.YtjlmkmhggkcbhaaDoorQref3
import Derived.Test.YtjlmkmhggkcbhaaDoorQlcut
import Derived.Test.YtjlmkmhggkcbhaaDoorQmsv
namespace Go.Proofs.YtjlmkmhggkcbhaaDoor
open Go.ChangeShapes Go.WideShapes Go.ChangeAt Go.RowKit
set_option maxRecDepth 100000
set_option linter.unusedVariables false

theorem drop_gt2 {ys : List Th} {i : Nat} (h : i < ys.length) : ys.drop i = gt ys i :: ys.drop (i + 1) := by
  rw [gt_get h]
  exact List.drop_eq_getElem_cons h
theorem erase_perm {L : List Th} {b : Nat} (hb : b < L.length) : (gt L b :: L.eraseIdx b).Perm L := by
  rw [List.eraseIdx_eq_take_drop_succ]
  have e : L = L.take b ++ gt L b :: L.drop (b + 1) := by rw [← drop_gt2 hb, List.take_append_drop]
  have h2 : (gt L b :: (L.take b ++ L.drop (b + 1))).Perm (L.take b ++ gt L b :: L.drop (b + 1)) := List.perm_middle.symm
  exact h2.trans (by rw [← e])
theorem fst_is {L zs : List Th} {y : Th} {b : Nat} (hp : L.Perm (y :: zs)) (hs : Srt (y :: zs)) (hf : IsFst L b) : gt L b = y ∧ (L.eraseIdx b).Perm zs := by
  have hb := hf.1
  have hbm : gt L b ∈ L := by rw [gt_get hb]; exact List.getElem_mem hb
  have hy : y ∈ L := hp.mem_iff.mpr (by simp)
  obtain ⟨k, hk, hky⟩ := mem_gt.mp hy
  have h1 : ¬ Ahd y (gt L b) := by rw [← hky]; exact hf.2 k hk
  have e : gt L b = y := by
    have hm := hp.mem_iff.mp hbm
    rcases List.mem_cons.mp hm with e | hz
    · exact e
    · have h2 := hs.head _ hz
      unfold Ahd at h1 h2
      exact Prod.ext (by omega) (by omega)
  refine ⟨e, ?_⟩
  have hq := erase_perm hb
  rw [e] at hq
  exact (List.perm_cons y).mp (hq.trans hp)
theorem prs_take {rs : List Int} {j : Nat} (hj : j < rs.length) : (prs rs).take (j + 1) = (prs rs).take j ++ [((j : Int), rs.getD j 0)] := by
  have hl : j < (prs rs).length := by rw [prs_len]; exact hj
  rw [List.take_add_one, List.getElem?_eq_getElem hl, ← gt_get hl, prs_at hj]
  rfl
theorem ids_take {ys : List Th} {i : Nat} (hi : i < ys.length) : (ys.map (·.1)).take (i + 1) = (ys.map (·.1)).take i ++ [(gt ys i).1] := by
  rw [List.take_add_one]
  simp [hi, gt_get hi]
def Lq (w wr : World) (q : Nat) (G : Nat → Prop) (L : List Th) : Prop := Rq G wr q L ∧ (∀ k, G k → w.heap.size ≤ k) ∧ Below w.heap.size w wr
structure Lo (w wr : World) (q : Nat) (rs : List Int) (n : Int) (ov : Value) (i : Nat) (L : List Th) (G : Nat → Prop) : Prop where
  lq : Lq w wr q G L
  oo : wr.ownsRow w.heap.size 3 1 ov i ((((srtd (prs rs)).map (·.1)).take i).map (Value.int .i64))
  ne : ∀ k, ov.ownBlock = some k → ¬ G k
  pm : L.Perm ((srtd (prs rs)).drop i)
  le : i ≤ rs.length
  ln : (i : Int) ≤ max n 0
theorem Lo.len {w wr : World} {q : Nat} {rs : List Int} {n : Int} {ov : Value} {i : Nat} {L : List Th} {G : Nat → Prop} (h : Lo w wr q rs n ov i L G) : L.length = rs.length - i := by
  rw [h.pm.length_eq, List.length_drop, srtd_len, prs_len]
theorem Lo.next {w wr w2 w5 : World} {q : Nat} {rs : List Int} {n : Int} {oa : Option Addr} {oc i b : Nat} {L : List Th} {G : Nat → Prop} {idb : Int} {o1 o2 : Obj} {v5 : Value} (h : Lo w wr q rs n (.slice oa i oc) i L G) (hid : (gt L b).1 = idb)
    (h2 : IsFst L b ∧ ∃ G', Rq G' w2 q (L.eraseIdx b) ∧ (∀ k, G' k → G k ∨ wr.heap.size ≤ k) ∧ Kept G wr w2) (hi : i < rs.length) (hn : (i : Int) < n)
    (ho5 : w5.ownsRow w.heap.size 3 1 v5 (i + 1) ((((srtd (prs rs)).map (·.1)).take i).map (Value.int .i64) ++ [.int .i64 idb])) (hg5 : ((w2.alloc o1).alloc o2).grownBy w5 (Value.slice oa i oc).ownBlock) (hat5 : v5.ownBlock = (Value.slice oa i oc).ownBlock ∨ v5.ownBlock = some ((w2.alloc o1).alloc o2).heap.size) :
    ∃ G', Lo w w5 q rs n v5 (i + 1) (L.eraseIdx b) G' := by
  obtain ⟨hf, G', g1, g2, g3⟩ := h2
  have hys : i < (srtd (prs rs)).length := by rw [srtd_len, prs_len]; exact hi
  have hpm := h.pm
  rw [drop_gt2 hys] at hpm
  have hsr : Srt (gt (srtd (prs rs)) i :: (srtd (prs rs)).drop (i + 1)) := by rw [← drop_gt2 hys]; exact (srtd_srt _).drop i
  obtain ⟨e1, e2⟩ := fst_is hpm hsr hf
  have hbw := h.lq.2.2
  have hsz := g3.size
  have hov : ∀ k, (Value.slice oa i oc).ownBlock = some k → ¬ G' k := fun k hk hG => by
    rcases g2 k hG with hG | hG
    · exact h.ne k hk hG
    · have := (h.oo.lt k hk).2; omega
  have hb2 : Below w.heap.size w w2 := hbw.trans (g3.below h.lq.2.1 hbw.size)
  have hb3 : Below w2.heap.size w2 ((w2.alloc o1).alloc o2) := ((Below.refl _ w2).alloc (Nat.le_refl _) o1).alloc (by simp) o2
  have k5 : Kept (fun k => (Value.slice oa i oc).ownBlock = some k) ((w2.alloc o1).alloc o2) w5 := Kept.grown hg5 (fun k hk => hk)
  refine ⟨G', ⟨(g1.below hb3).kept k5 (fun k hG hk => hov k hk hG), fun k hG => (g2 k hG).elim (fun hG => h.lq.2.1 k hG) (fun hG => by have := hbw.size; omega), ?_⟩, ?_, ?_, e2, hi, by omega⟩
  · exact hb2.trans ((hb3.mono hb2.size).trans (k5.below (fun k hk => (h.oo.lt k hk).1) (Nat.le_trans hb2.size hb3.size)))
  · rw [ids_take hys, List.map_append, ← e1, hid]
    exact ho5
  · intro k hk hG
    rcases hat5 with e | e
    · rw [e] at hk; exact hov k hk hG
    · rw [e] at hk
      simp at hk
      have := g1.1 k hG
      omega
set_option maxHeartbeats 3200000 in
theorem refleast_is (w : World) (v : Value) (rs : List Int) (n : Int) (h : Sl w v rs) (hl : rs.length ≤ 2000) :
    Calls Tryd.prog 14 #[v, .int .i64 n] w fun e w' => ∃ a c, e = .returned (.slice a (lcount n rs.length) c) ∧ Hid (Sl w' (.slice a (lcount n rs.length) c) (leastL rs n) ∧ Below w.heap.size w w') := by
  obtain ⟨a0, c0, rfl, _⟩ := id h
  have H := mkHid h
  have hli : (rs.length : Int) ≤ 2000 := by omega
  obtain ⟨ie, hie⟩ : ∃ ie, Hid (Tryd.prog.info? 52 = some ie ∧ ie.zero = some zth ∧ ie.size = 2 ∧ ie.bytes = 16) := by
    obtain ⟨ie, h1, h2, h3, h4⟩ := info_parts infoTh
    exact ⟨ie, mkHid ⟨h1, h2, h3, h4⟩⟩
  obtain ⟨ii, hii⟩ : ∃ ii, Hid (Tryd.prog.info? 3 = some ii ∧ ii.zero = some (.int .i64 0) ∧ ii.size = 1 ∧ ii.bytes = 8) := by
    obtain ⟨ie, h1, h2, h3, h4⟩ := info_parts infoIntL
    exact ⟨ie, mkHid ⟨h1, h2, h3, h4⟩⟩
  have HL := mkHid hl
  clear h hl
  go_enter Tryd.func14, Tryd.ntmps14
  go_wp2
  have HQ0 : Hid (Lq w (w.alloc (.cells #[.slice none 0 0] 30)) w.heap.size (fun k => k = w.heap.size) []) := mkHid ⟨⟨fun k hk => by rw [hk]; simp, rfl, _, heap_alloc_new w _, fun k hk => by simp [Value.ownBlock] at hk, World.ownsRow_nil _ _ _ _⟩, fun k hk => by omega, (Below.refl _ w).alloc (Nat.le_refl _) _⟩
  obtain ⟨q, hq⟩ : ∃ q, q = w.heap.size := ⟨_, rfl⟩
  obtain ⟨w1, hw1⟩ : ∃ w1, w1 = w.alloc (.cells #[.slice none 0 0] 30) := ⟨_, rfl⟩
  have HQ1 : Hid (∃ G, Lq w w1 q G []) := mkHid (by rw [hw1, hq]; exact ⟨_, HQ0.out⟩)
  rw [← hw1, ← hq]
  clear hw1 hq HQ0
  go_loopw [15] (fun iv wr => ∃ (j : Nat), iv = .int .i64 (j : Int) ∧ j ≤ rs.length ∧ Hid (∃ G, Lq w wr q G ((prs rs).take j))) (fun iv _ => rs.length - (intOf iv).toNat)
  case atStart => exact ⟨0, rfl, Nat.zero_le _, HQ1⟩
  case round =>
    clear HQ1
    obtain ⟨j, rfl, hj, HQ⟩ := hrel
    by_cases hlt : j < rs.length
    · obtain ⟨G, hQ⟩ := HQ.out
      obtain ⟨b, off, rfl, x0⟩ := (H.out.below hQ.2.2).at j hlt
      obtain ⟨x, hxx⟩ : ∃ x, x = rs.getD j 0 := ⟨_, rfl⟩
      have hpt := prs_take hlt
      rw [← hxx] at x0 hpt
      have hji : (j : Int) < rs.length := by omega
      obtain ⟨sv, hd, ho, hsz, hfin⟩ := hQ.1.pushed ((j : Int), x)
      have hLl : ((prs rs).take j).length = j := by rw [List.length_take, prs_len]; omega
      rw [hLl] at ho hfin
      obtain ⟨sa, sc, rfl⟩ := own_shape ho
      have p0 : wr.cell? ⟨q, 0, none⟩ = some (.slice sa j sc) := cell_of_block hd rfl
      have HO := mkHid ho
      have HFIN := mkHid hfin
      have HQG := mkHid hQ
      have HPT := mkHid hpt
      have HLN : Hid (j + 1 ≤ maxLen ∧ (j + 1) * 16 ≤ 140737488355328) := mkHid ⟨by unfold maxLen; omega, by omega⟩
      clear hd ho hsz hfin hQ hxx hpt hLl HQ
      go_wp2_with (first
        | (at_builtin; refine wpList_append_src2 _ rfl (.tmp 24) (.tmp 28) 28 28 rfl 0 52 ie Tryd.underlying28 hie.out.1 zth 16 hie.out.2.1 rfl hie.out.2.2.1 hie.out.2.2.2 (.slice sa j sc) j (tcs ((prs rs).take j)) rfl (HO.out.alloc _) (.slice (some ⟨wr.heap.size, 0, none⟩) 1 1) 1 (tc ((j : Int), x)) rfl (srcTh wr ((j : Int), x)) HLN.out.1 HLN.out.2 (Nat.zero_le _) ?_; intro v5 w5 ho5 hg5 hat5; obtain ⟨hd5, hfin⟩ := HFIN.out _ w5 v5 ((Below.refl _ wr).alloc (Nat.le_refl _) _) hg5 hat5 ho5; have e0 : w5.cell? ⟨q, 0, none⟩ = some (.slice sa j sc) := cell_of_block hd5 rfl; have f0 : w5.frozen? ⟨q, 0, none⟩ = false := frozen_of_block hd5; obtain ⟨a5, c5, rfl⟩ := own_shape ho5; have HE := mkHid hfin; clear hd5 hfin ho5 hg5 hat5))
      go_roundw
      case rel =>
        refine ⟨j + 1, by go_num, by omega, mkHid ?_⟩
        obtain ⟨G', g1, g2, g3⟩ := HE.out
        have hs := HQG.out.2.2.size
        exact ⟨G', by rw [HPT.out]; exact g1, fun k hk => (g2 k hk).elim (fun h => HQG.out.2.1 k h) (fun h => by omega), HQG.out.2.2.trans (g3.below HQG.out.2.1 hs)⟩
      case measure => simp [intOf]; omega
    · obtain rfl : j = rs.length := by omega
      have HQ2 : Hid (∃ G, Lq w wr q G (prs rs)) := mkHid (by have := HQ.out; rw [List.take_of_length_le (by rw [prs_len]; exact Nat.le_refl _)] at this; exact this)
      clear HQ
      go_wp2
      have HL0 : Hid (∃ i L G, Lo w (wr.alloc (.cells #[] 3)) q rs n (.slice (some ⟨wr.heap.size, 0, none⟩) 0 0) i L G) := mkHid (by
        obtain ⟨G, h1, h2, h3⟩ := HQ2.out
        have hb := (Below.refl _ wr).alloc (Nat.le_refl _) (.cells #[] 3)
        exact ⟨0, prs rs, G, ⟨h1.below hb, h2, h3.trans (hb.mono h3.size)⟩, World.ownsRow_made (base := w.heap.size) (e := 3) (size := 1) wr #[] 0 h3.size (by unfold maxLen; omega) rfl, fun k hk hG => by simp [Value.ownBlock] at hk; have := h1.1 k hG; omega, (srtd_perm _).symm, Nat.zero_le _, by omega⟩)
      clear HQ2
      go_loopw [8] (fun ov wr => ∃ i L G, Lo w wr q rs n ov i L G) (fun ov _ => rs.length - (match ov with | .slice _ n _ => n | _ => 0))
      case atStart => exact HL0.out
      case round =>
        clear HL0
        obtain ⟨i, L, G, hO⟩ := hrel
        have HO := mkHid hO
        obtain ⟨oa, oc, hov⟩ := own_shape hO.oo
        subst hov
        obtain ⟨qa, qc, q0, _, _⟩ := hO.lq.1.view
        have hlen := hO.len
        have hile := hO.le
        have hiln := hO.ln
        have hlL : (L.length : Int) ≤ 2000 := by omega
        clear hO
        have fin : ∀ wr : World, Lo w wr q rs n (.slice oa i oc) i L G → i = lcount n rs.length → ∃ a c, Ending.returned (Value.slice oa i oc) = .returned (.slice a (lcount n rs.length) c) ∧ Hid (Sl wr (.slice a (lcount n rs.length) c) (leastL rs n) ∧ Below w.heap.size w wr) := by
          intro wr hO hi
          refine ⟨oa, oc, by rw [hi], ?_, hO.lq.2.2⟩
          rw [← hi]
          have hll : (leastL rs n).length = i := by rw [leastL_len, hi]
          have ho := hO.oo
          have e : ((srtd (prs rs)).map (·.1)).take i = leastL rs n := by unfold leastL; rw [← hi]
          rw [e] at ho
          have ho2 : wr.ownsRow w.heap.size 3 1 (.slice oa i oc) (leastL rs n).length ((leastL rs n).map (Value.int .i64)) := by rw [hll]; exact ho
          exact (own_slc ho2).sl
        have FIN := mkHid fin
        clear fin
        by_cases c1 : (i : Int) < n
        · by_cases c2 : 0 < L.length
          · have c2i : (0 : Int) < L.length := by omega
            have HPOP := mkHid (rpop_some G wr q L HO.out.lq.1 c2 (by omega))
            have HLI : Hid (i + 1 ≤ rs.length) := mkHid (by omega)
            clear hlen hile hiln
            go_wp2_with (first
              | (go_at_call 29; refine HPOP.out.mono ?_; rintro e w2 ⟨b, rfl, h2⟩; generalize hid : (gt L b).1 = idb; generalize (gt L b).2 = rkb; have HP2 := mkHid (And.intro hid h2.out); clear hid h2)
              | (at_builtin; refine wpList_append_srcV _ rfl (.tmp 51) (.tmp 54) 36 36 rfl w.heap.size 3 ii Tryd.underlying36 hii.out.1 (.int .i64 0) 8 hii.out.2.1 rfl hii.out.2.2.1 hii.out.2.2.2 (.slice oa i oc) i ((((srtd (prs rs)).map (·.1)).take i).map (Value.int .i64)) rfl (own_keep (own_keep HO.out.oo (by obtain ⟨G', g1, g2, g3⟩ := HP2.out.2.2; exact g3) HO.out.ne) (kept_below (fun _ => False) (((Below.refl _ w2).alloc (Nat.le_refl _) (.cells #[.int .i64 idb, .int .i64 rkb] 52)).alloc (by simp) _)) (fun _ _ => id)) (.slice (some ⟨w2.heap.size + 1, 0, none⟩) 1 1) 1 [.int .i64 idb] rfl (src_int2 (w2.alloc (.cells #[.int .i64 idb, .int .i64 rkb] 52)) idb (w2.heap.size + 1) (by simp)) (by have := HLI.out; have := HL.out; unfold maxLen; omega) (by have := HLI.out; have := HL.out; omega) (by obtain ⟨G', g1, g2, g3⟩ := HP2.out.2.2; have h1 := HO.out.lq.2.2.size; have h2 := g3.size; simp; omega) ?_; intro v5 w5 ho5 hg5 hat5; have HN5 := mkHid (Lo.next HO.out HP2.out.1 HP2.out.2 (show i < rs.length by have := HLI.out; omega) c1 ho5 hg5 hat5); obtain ⟨a5, c5, rfl⟩ := own_shape ho5; clear ho5 hg5 hat5))
            go_roundw
            case rel => obtain ⟨G', hN⟩ := HN5.out; exact ⟨i + 1, _, G', hN⟩
            case measure => simp; have := HLI.out; omega
          · have c2i : ¬ (0 : Int) < L.length := by omega
            have HI : Hid (i = lcount n rs.length) := mkHid (by unfold lcount; split <;> omega)
            clear hlen hile hiln
            go_wp2
            go_ret
            exact FIN.out _ HO.out HI.out
        · have HI : Hid (i = lcount n rs.length) := mkHid (by unfold lcount; split <;> omega)
          clear hlen hile hiln
          go_wp2
          go_ret
          exact FIN.out _ HO.out HI.out
end Go.Proofs.YtjlmkmhggkcbhaaDoor
