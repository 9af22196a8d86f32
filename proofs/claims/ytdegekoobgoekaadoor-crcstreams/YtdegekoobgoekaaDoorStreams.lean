/- CrcStreams: payloads framed one behind the other come back, however the stream is cut. -/
import Derived.Test.YtdegekoobgoekaaDoorStreamSt
import Derived.Test.YtdegekoobgoekaaDoorSlips
namespace Go.Proofs.YtdegekoobgoekaaDoor
open Go.ChangeShapes Go.WideShapes Go.ChangeAt Go.RowKit

theorem src_frame1 {w : World} {base n c : Nat} {a : Option Addr} {F : List Int} (hn : F.length = n) (hB : Byts F) (ho : w.ownsRow base 5 1 (.slice a n c) n (F.map (Value.int .u8))) : Src Tryd.prog 1 22 (.slice a n c) n (F.map (Value.int .u8)) w := by
  subst hn
  exact (Rd.of_owns hB ho).src
theorem Rd.lenS {w : World} {v : Value} {bs : List Int} (h : Rd w v bs) : ∀ (W : World), (Builtin.len_ #[22] 3 #[v]).run Tryd.prog W = .ok (.int .i64 (bs.length : Int)) W := by
  obtain ⟨_, a, c, rfl, _⟩ := h
  intro W
  go_simp
theorem Lst.src {G : Nat → Prop} {base : Nat} {w : World} {v : Value} {ps : List (List Int)} (h : Lst G base w v ps) : ∃ us, RdAll G w us ps ∧ Src Tryd.prog 1 35 v ps.length us w := by
  obtain ⟨vs, ho, hr, hd⟩ := h
  refine ⟨vs, hr, ?_⟩
  rcases ho.2 with ⟨rfl, h0⟩ | ⟨g, cap, cur, rfl, _⟩
  · have : vs = [] := List.length_eq_zero_iff.mp (by have := hr.len; omega)
    subst this
    rw [h0]
    exact Src.ofNil w Tryd.underlying35 0
  · refine Src.ofSlice w Tryd.underlying35 ⟨g, 0, none⟩ _ cap _ (by have := hr.len; omega) (fun j u hj => ho.cells (g := g) rfl j u hj) hr.one
theorem st_start {w wr : World} {sv tv : Value} {qs : List (List Int)} (h : St1 w wr sv tv qs) : St w ((wr.alloc (.cells #[] 22)).alloc (.cells #[] 5)) sv tv (.slice (some ⟨wr.heap.size, 0, none⟩) 0 0) (.slice (some ⟨wr.heap.size + 1, 0, none⟩) 0 0) qs [] [] (fun _ => False) := by
  have h1 := World.ownsRow_made (base := w.heap.size) (e := 22) (size := 1) wr #[] 0 h.bel.size (by unfold maxLen; omega) rfl
  have hs1 : w.heap.size ≤ (wr.alloc (.cells #[] 22)).heap.size := by have := h.bel.size; simp; omega
  have h2 := World.ownsRow_made (base := w.heap.size) (e := 5) (size := 1) (wr.alloc (.cells #[] 22)) #[] 0 hs1 (by unfold maxLen; omega) rfl
  have hz : (wr.alloc (.cells #[] 22)).heap.size = wr.heap.size + 1 := by simp
  rw [hz] at h2
  have h' := h.late (((Below.refl wr.heap.size wr).alloc (Nat.le_refl _) (.cells #[] 22)).alloc (by simp) (.cells #[] 5))
  have ls : ∀ k, sv.ownBlock = some k → k < wr.heap.size := fun k hk => (h.s.lt k hk).2
  have lt : ∀ k, tv.ownBlock = some k → k < wr.heap.size := fun k hk => (h.t.lt k hk).2
  refine ⟨h'.bel, h'.s, h'.t, ⟨[], h1.alloc _, trivial, fun _ _ hf => hf⟩, h2, fun _ hf => hf.elim, fun _ hf => hf.elim, fun _ hf => hf.elim, fun _ hf => hf.elim, h.st, fun k hk h3 => ?_, fun k hk h3 => ?_, fun k hk h3 => ?_, fun k hk h3 => ?_, fun k hk h3 => ?_⟩
  · have := ls k hk; simp [Value.ownBlock] at h3; omega
  · have := ls k hk; simp [Value.ownBlock] at h3; omega
  · have := lt k hk; simp [Value.ownBlock] at h3; omega
  · have := lt k hk; simp [Value.ownBlock] at h3; omega
  · simp [Value.ownBlock] at hk h3; omega
theorem piece_eq {qs done rest : List (List Int)} {m n : Nat} (hq : qs = done ++ rest) (_ : m + n ≤ (Sx rest).length) : (Sx rest).take m ++ ((Sx qs).drop ((Sx done).length + m)).take n = (Sx rest).take (m + n) := by
  rw [hq, Sx_append, ← List.drop_drop, List.drop_left' rfl, take_take_drop]
theorem round_math {qs done rest : List (List Int)} {m n a : Nat} (hP : Pay qs) (hq : qs = done ++ rest) (ha : a = (Sx done).length + m) (hn : a + n ≤ (Sx qs).length) :
    ∃ (K : Nat) (wt2 pc : List Int) (r1 r2 : List (List Int)), pc = ((Sx qs).drop a).take n ∧ pc.length = n ∧ (Sx rest).take m ++ pc = wt2 ∧ ((Sx rest).take m).length = m ∧ wt2.length = m + n ∧ Byts wt2 ∧ splits wt2 = .ok (r1, K) ∧ K ≤ m + n ∧ wt2.drop K = (Sx r2).take (m + n - K) ∧ m + n - K ≤ (Sx r2).length ∧ qs = (done ++ r1) ++ r2 ∧
      (r2 ≠ [] → m + n - K < (r2.getD 0 []).length + 8) ∧ a + n = (Sx (done ++ r1)).length + (m + n - K) := by
  have hl : (Sx qs).length = (Sx done).length + (Sx rest).length := by rw [hq, Sx_append, List.length_append]
  have hPr : Pay rest := fun q h => hP q (by rw [hq]; exact List.mem_append_right _ h)
  have hmn : m + n ≤ (Sx rest).length := by omega
  have hw : ((Sx rest).take (m + n)).length = m + n := by rw [List.length_take]; omega
  obtain ⟨j, hj, h1, h2, h3⟩ := spl_take rest (m + n) (m + n + 1) hPr hmn (by omega)
  have hsp := congrArg List.length (Sx_split rest j)
  rw [List.length_append] at hsp
  refine ⟨(Sx (rest.take j)).length, (Sx rest).take (m + n), ((Sx qs).drop a).take n, rest.take j, rest.drop j, rfl, by rw [List.length_take, List.length_drop]; omega, by rw [ha]; exact piece_eq hq hmn, by rw [List.length_take]; omega, hw, (Sx_byts hPr).take _, by unfold splits; rw [hw]; exact h1, h2, Sx_rest rest j (m + n), by omega, by rw [List.append_assoc, List.take_append_drop]; exact hq, fun hne => ?_, by rw [Sx_append, List.length_append]; omega⟩
  have hjl : j < rest.length := by
    rcases Nat.lt_or_ge j rest.length with h | h
    · exact h
    · exact absurd (List.drop_of_length_le h) hne
  have := h3 hjl
  have e : (rest.drop j).getD 0 [] = rest.getD j [] := by simp [List.getD]
  rw [e]
  exact this
theorem st1_start {w w1 : World} (hb : Below w.heap.size w w1) : St1 w ((w1.alloc (.cells #[] 5)).alloc (.cells #[] 22)) (.slice (some ⟨w1.heap.size, 0, none⟩) 0 0) (.slice (some ⟨w1.heap.size + 1, 0, none⟩) 0 0) [] := by
  have h1 := World.ownsRow_made (base := w.heap.size) (e := 5) (size := 1) w1 #[] 0 hb.size (by unfold maxLen; omega) rfl
  have hs1 : w.heap.size ≤ (w1.alloc (.cells #[] 5)).heap.size := by have := hb.size; simp; omega
  have h2 := World.ownsRow_made (base := w.heap.size) (e := 22) (size := 1) (w1.alloc (.cells #[] 5)) #[] 0 hs1 (by unfold maxLen; omega) rfl
  have hz : (w1.alloc (.cells #[] 5)).heap.size = w1.heap.size + 1 := by simp
  rw [hz] at h2
  refine ⟨(hb.alloc hb.size _).alloc hs1 _, h1.alloc _, ⟨[], h2, trivial, fun k hk h3 => ?_⟩, fun k hk h3 => ?_⟩
  · simp [Value.ownBlock] at hk
    have := hb.size
    omega
  · simp [Value.ownBlock] at hk h3
    omega
set_option maxRecDepth 100000 in
set_option maxHeartbeats 12800000 in
theorem streams_walk (w : World) (va vc : Value) (ps : List (List Int)) (cs : List Int) (eL eS : Addr) (hA : LRd w va ps) (hC : IRd w vc cs) (hEL : Err w 0 text0 eL) (hES : Err w 4 text4 eS) (hpl : (ps.length : Int) ≤ 9223372036854775807) :
    Calls Tryd.prog 6 #[va, vc] w fun e w' => e = .returned (.bool true) ∧ Below w.heap.size w w' := by
  obtain ⟨i0, hi, hz0, hz1, hz2⟩ := info_parts Tryd.info5
  obtain ⟨i1, hj, hy0, hy1, hy2⟩ := info_parts Tryd.info22
  obtain ⟨aa, ca, rfl⟩ : ∃ a c, va = .slice a ps.length c := hA.imp fun a h => h.imp fun c h => h.1
  obtain ⟨ac, cc, rfl⟩ : ∃ a c, vc = .slice a cs.length c := hC.imp fun a h => h.imp fun c h => h.1
  have HcL := mkHid hEL.1
  have HcS := mkHid hES.1
  clear hEL hES
  go_enter Tryd.func6, Tryd.ntmps6
  go_wp2_with (go_at_call 7; refine (crcalive_any _).mono ?_; rintro e w1 ⟨rfl, hb1⟩)
  go_loopw [5, 6, 25] (fun sv tv iv wr => ∃ (i : Nat) (qs : List (List Int)), iv = .int .i64 (i : Int) ∧ i ≤ ps.length ∧ Pay qs ∧ qs.length ≤ i ∧ qs.length ≤ 40 ∧ St1 w wr sv tv qs) (fun _ _ iv _ => ps.length - (intOf iv).toNat)
  case atStart =>
    exact ⟨0, [], rfl, Nat.zero_le _, Pay.nil, Nat.le_refl _, by simp, st1_start hb1⟩
  case round =>
    obtain ⟨i, qs, rfl, hi', hP, hqi, hq40, hS⟩ := hrel
    by_cases hlt : i < ps.length
    · have hii : (i : Int) < ps.length := by omega
      obtain ⟨b, off, a1, c1, eaa, hcell, ru, hub⟩ := hA.at hS.bel i hlt
      subst eaa
      obtain ⟨p, hp⟩ : ∃ p, p = ps.getD i [] := ⟨_, rfl⟩
      rw [← hp] at hcell ru hub
      clear hp
      have HS := mkHid hS
      have heL := cell_later hS.bel HcL.out
      clear hS
      by_cases hlen : (p.length : Int) ≤ 32768
      · by_cases h40 : (i : Int) < 40
        · obtain ⟨sa, sc, esv⟩ := own_shape HS.out.s
          obtain ⟨vs, hto, htr, htd⟩ := HS.out.t
          obtain ⟨ta, tc, etv⟩ := own_shape hto
          subst esv etv
          have hfl := frame_len p
          have hFB := mkHid (frame_byts ru.1)
          have hSl := Sx_len hP
          have HL : Hid (((Sx qs).length + (p.length + 8) ≤ maxLen ∧ (Sx qs).length + (p.length + 8) ≤ 140737488355328) ∧ qs.length + 1 ≤ maxLen ∧ (qs.length + 1) * 24 ≤ 140737488355328) := mkHid ⟨⟨by unfold maxLen; omega, by omega⟩, by unfold maxLen; omega, by omega⟩
          have HP2 : Hid (Pay (qs ++ [p])) := mkHid (hP.append (fun q hq => by simp at hq; subst hq; exact ⟨ru.1, by omega⟩))
          have M1 : Hid True := trivial
          clear htd
          go_wp2_with (first | (go_at_call 9; refine (frame_any _ _ p ru hlen).mono ?_; rintro e w2 ⟨v2, rfl, ho2, hb2⟩; obtain ⟨fa, fc, rfl⟩ := own_shape ho2; have hs2 := own_late HS.out.s hb2; have ht2 := own_late hto hb2; have htr2 := mkHid (htr.kept (kept_of_below hb2) (fun k hk hge => by have := HS.out.bel.size; omega)); have ru2 := mkHid (ru.later hb2); have hsz2 := (HS.out.late hb2).bel.size; have HB2 := mkHid hb2; clear hb2) | (at_builtin; clear M1; refine wpList_append_src _ rfl (.tmp 41) (.tmp 42) 22 22 rfl w.heap.size 5 i0 Tryd.underlying22 hi hz0 hz1 hz2 _ _ _ rfl hs2 _ _ _ rfl (src_frame1 hfl hFB.out ho2) HL.out.1.1 HL.out.1.2 hsz2 ?_; intro v3 w3 ho3 hg3 hat3; have ht3 := own_keptV ht2 (Kept.grown (F := fun k => (Value.slice sa (Sx qs).length sc).ownBlock = some k) hg3 (fun k hk => hk)) (fun k h1 h2 => HS.out.st k h2 h1); have HG3 := mkHid hg3; have HO3 := mkHid ho3; have HAT3 := mkHid hat3; have hsz3 := Nat.le_trans hsz2 hg3.size; clear hg3 ho3 hat3 ho2 hs2) | (at_builtin; refine wpList_append_srcV _ rfl (.tmp 44) (.tmp 46) 35 35 rfl w.heap.size 22 i1 Tryd.underlying35 hj (.slice none 0 0) 24 hy0 rfl hy1 hy2 _ _ _ rfl (ht3.alloc _) _ _ _ rfl (src_oneV w3 _ ru.one) HL.out.2.1 HL.out.2.2 (by simp; omega) ?_; intro v4 w4 ho4 hg4 hat4; have HS4 : Hid (St1 w w4 v3 v4 (qs ++ [p])) := mkHid (HS.out.put HB2.out ht2 htr2.out HG3.out (by have e : (Sx qs).length + (p.length + 8) = (Sx (qs ++ [p])).length := (by rw [Sx_append, Sx_one, List.length_append, hfl]); have := HO3.out; rw [e, ← List.map_append] at this; rw [Sx_append, Sx_one] at this ⊢; exact this) HAT3.out ru2.out hub hg4 ho4 hat4); clear ho4 hg4 hat4 ht3 ht2))
          go_roundw
          case rel => exact ⟨i + 1, qs ++ [p], by go_num, by omega, HP2.out, by rw [List.length_append, List.length_singleton]; omega, by rw [List.length_append, List.length_singleton]; omega, HS4.out⟩
          case measure => simp [intOf]; omega
        · go_wp2_with (go_at_call 9; refine (frame_any _ _ p ru hlen).mono ?_; rintro e w2 ⟨v2, rfl, ho2, hb2⟩; have HS2 := mkHid (HS.out.late hb2); clear ho2)
          go_roundw
          case rel => exact ⟨i + 1, qs, by go_num, by omega, hP, by omega, hq40, HS2.out⟩
          case measure => simp [intOf]; omega
      · have hl2 : 32768 < p.length := by omega
        by_cases h40 : (i : Int) < 40
        · go_wp2_with (go_at_call 9; refine (frame_large _ _ p _ ru hl2 heL).mono ?_; rintro e w2 ⟨rfl, hb2⟩; have HS2 := mkHid (HS.out.late hb2))
          go_roundw
          case rel => exact ⟨i + 1, qs, by go_num, by omega, hP, by omega, hq40, HS2.out⟩
          case measure => simp [intOf]; omega
        · go_wp2_with (go_at_call 9; refine (frame_large _ _ p _ ru hl2 heL).mono ?_; rintro e w2 ⟨rfl, hb2⟩; have HS2 := mkHid (HS.out.late hb2))
          go_roundw
          case rel => exact ⟨i + 1, qs, by go_num, by omega, hP, by omega, hq40, HS2.out⟩
          case measure => simp [intOf]; omega
    · obtain rfl : i = ps.length := by omega
      obtain ⟨sa, sc, esv⟩ := own_shape hS.s
      have HS := mkHid hS
      have hSl := Sx_len hP
      clear hS
      subst esv
      obtain ⟨I, hI1, hI2, hI3⟩ : ∃ I : Nat, (I : Int) ≤ cs.length ∧ (I : Int) ≤ 59 ∧ ((cs.length : Int) ≤ I ∨ (59 : Int) ≤ I) := ⟨min cs.length 59, by omega, by omega, by omega⟩
      have hN : ((Sx qs).length : Int) ≤ 2000000 := by omega
      clear hSl
      go_wp2
      go_loopw [11, 12, 13, 14] (fun gv vw av iv wr => ∃ (i at' m : Nat) (done rest : List (List Int)) (G : Nat → Prop), iv = .int .i64 (i : Int) ∧ av = .int .i64 (at' : Int) ∧ Hid (qs = done ++ rest) ∧ m ≤ (Sx rest).length ∧ at' = (Sx done).length + m ∧ i ≤ I + 1 ∧ (i = I + 1 → at' = (Sx qs).length) ∧ Hid (rest ≠ [] → m < (rest.getD 0 []).length + 8) ∧ St w wr (.slice sa (Sx qs).length sc) u6 gv vw qs done ((Sx rest).take m) G) (fun _ _ _ iv _ => I + 1 - (intOf iv).toNat)
      case atStart => exact ⟨0, 0, 0, [], qs, _, rfl, rfl, mkHid rfl, Nat.zero_le _, rfl, by omega, fun h => by omega, mkHid (fun _ => by omega), st_start HS.out⟩
      case round =>
        clear HS
        obtain ⟨i, at', m, done, rest, G, rfl, rfl, HQ, hm, hat, hiI, hlast, HM, hST⟩ := hrel
        have HST := mkHid hST
        have HAT := mkHid hat
        have HLST := mkHid hlast
        clear hST hat hlast
        by_cases hin : i ≤ I
        · have hleN : at' ≤ (Sx qs).length := by
            have h1 := HAT.out
            have h2 : (Sx qs).length = (Sx done).length + (Sx rest).length := by rw [HQ.out, Sx_append, List.length_append]
            omega
          obtain ⟨Dn, hD⟩ : ∃ Dn : Nat, Hid (at' + Dn = (Sx qs).length) := ⟨(Sx qs).length - at', mkHid (by omega)⟩
          have hsub : ((Sx qs).length : Int) - (at' : Int) = (Dn : Int) := by have := hD.out; omega
          have hg60 : (i : Int) < 60 := by omega
          have hgl : (i : Int) ≤ cs.length := by omega
          by_cases hiA : i < I
          · have hi59 : (i : Int) < 59 := by omega
            have hic : (i : Int) < cs.length := by omega
            obtain ⟨cb, co, eac, hcc⟩ := hC.at HST.out.bel i (by omega)
            subst eac
            generalize cs.getD i 0 = c at hcc
            obtain ⟨R, eR, hR⟩ := rem_ex c 50 (by omega)
            have hs1 := Int.lt_tmod_of_pos c (show (0 : Int) < 50 by omega)
            have hs2 := Int.tmod_lt_of_pos c (show (0 : Int) < 50 by omega)
            rw [show ((50 : Nat) : Int) = 50 from rfl] at eR hR
            by_cases hRD : (R : Int) < (Dn : Int)
            · obtain ⟨n, hn, hn1⟩ : ∃ n : Nat, n = R ∧ at' + n ≤ (Sx qs).length := ⟨R, rfl, by have := hD.out; omega⟩
              subst hn
              have HLA : Hid (i = I → at' + n = (Sx qs).length) := mkHid (fun h => by have := hD.out; omega)
              obtain ⟨K, wt2, pc, r1, r2, hpc, hpl2, hcat, hwl, hw2l, hB2, hspl, hKle, hdr, hm2, hq2, hnx, hat2⟩ := round_math (n := n) hP HQ.out HAT.out hn1
              obtain ⟨vsl, ssl, rsl⟩ := (Rd.of_owns (Sx_byts hP) HST.out.s).midS (at' : Int) ((at' : Int) + (n : Int)) at' (at' + n) rfl (by omega) (by omega) (by omega)
              rw [show at' + n - at' = n by omega, ← hpc] at rsl
              have RSL := mkHid rsl
              have hmn : m + n ≤ 2000000 := by have := HAT.out; omega
              have hdl : done.length + r1.length ≤ 40 := by
                have := congrArg List.length hq2
                rw [List.length_append, List.length_append] at this
                omega
              have HL : Hid ((((Sx rest).take m).length + pc.length ≤ maxLen ∧ ((Sx rest).take m).length + pc.length ≤ 140737488355328) ∧ done.length + r1.length ≤ maxLen ∧ (done.length + r1.length) * 24 ≤ 140737488355328) := mkHid ⟨⟨by unfold maxLen; omega, by omega⟩, by unfold maxLen; omega, by omega⟩
              have HL2 : Hid (0 + (wt2.drop K).length ≤ maxLen ∧ 0 + (wt2.drop K).length ≤ 140737488355328) := mkHid (by rw [List.length_drop]; exact ⟨by unfold maxLen; omega, by omega⟩)
              have HWT : Hid (((Sx rest).take m).length + pc.length = wt2.length ∧ (Sx rest).take m ++ pc = wt2) := mkHid ⟨by omega, hcat⟩
              have HSP := mkHid hspl
              have HB2 := mkHid hB2
              have hKl : K ≤ wt2.length := by omega
              have hKi : (K : Int) ≤ wt2.length := by omega
              have hw2 : (wt2.length : Int) ≤ 5000000 := by omega
              have HE := mkHid (And.intro hdr (And.intro hm2 (And.intro hq2 (And.intro hnx hat2))))
              have M1 : Hid True := trivial
              have M2 : Hid True := trivial
              generalize (Sx rest).take m = wt at *
              clear hpc hcat hspl hB2 hdr hm2 hq2 hnx hat2 rsl hwl hw2l hKle hpl2 hdl hmn
              go_wp2_with (first | (at_builtin; clear M1; refine wpList_append_src _ rfl (.tmp 82) (.tmp 88) 22 22 rfl w.heap.size 5 i0 Tryd.underlying22 hi hz0 hz1 hz2 _ _ _ rfl HST.out.v _ _ _ rfl RSL.out.src HL.out.1.1 HL.out.1.2 HST.out.bel.size ?_; intro v1 w1 ho1 hg1 hat1; rw [← List.map_append, HWT.out.2, HWT.out.1] at ho1; have HST1 := mkHid (HST.out.waits hg1 ho1 hat1); have hlen1 := (Rd.of_owns HB2.out ho1).lenS; have HR1 := mkHid (Rd.of_owns HB2.out ho1); have hc1L := cell_later HST1.out.bel HcL.out; have hc1S := cell_later HST1.out.bel HcS.out; clear hg1 hat1 ho1 HST) | (go_at_call 16; refine (split_any _ _ wt2 _ _ _ _ _ _ rfl rfl HR1.out hw2 hc1L hc1S).mono ?_; rintro e w2 hpost; rw [HSP.out] at hpost; obtain ⟨hb2, lv, H, rfl, hL2, hH2⟩ := hpost; have HST2 := mkHid (HST1.out.late hb2); obtain ⟨us, hur, husrc⟩ := hL2.src; obtain ⟨vs, hgo, hgr, hgd⟩ := HST2.out.g; have HH2 := mkHid hH2; have HU := mkHid (And.intro hur (And.intro hgr hgd)); have HBB : Hid (∀ k, ((Value.slice sa (Sx qs).length sc).ownBlock = some k ∨ u6.ownBlock = some k ∨ u11.ownBlock = some k ∨ v1.ownBlock = some k) → k < w1.heap.size) := mkHid (fun k hk => hk.elim (fun hk => (HST1.out.s.lt k hk).2) (fun hk => hk.elim (fun hk => (HST1.out.t.lt k hk).2) (fun hk => hk.elim (fun hk => (HST1.out.g.lt k hk).2) (fun hk => (HST1.out.v.lt k hk).2)))); have HS1 := mkHid HST1.out.bel.size; have hsz2 := HST2.out.bel.size; clear hb2 hL2 hH2 hur hgr hgd) | (at_builtin; clear M2; refine wpList_append_srcV _ rfl (.tmp 111) (.tmp 112) 35 35 rfl w.heap.size 22 i1 Tryd.underlying35 hj (.slice none 0 0) 24 hy0 rfl hy1 hy2 _ _ _ rfl hgo _ _ _ rfl husrc HL.out.2.1 HL.out.2.2 hsz2 ?_; intro v3 w3 ho3 hg3 hat3; rw [← List.length_append] at ho3; have HST3 := mkHid (HST2.out.got HU.out.2.1 HU.out.1 HBB.out HS1.out HH2.out HU.out.2.2 hg3 ho3 hat3); obtain ⟨vt, st, rt⟩ := (Rd.of_owns HB2.out HST3.out.v).tailS (K : Int) K rfl hKl; have RT := mkHid rt; clear rt ho3 hg3 hat3 hgo husrc) | (at_builtin; have hm := World.ownsRow_made (base := w3.heap.size) (e := 5) (size := 1) w3 #[] 0 (Nat.le_refl _) (by unfold maxLen; omega) rfl; refine wpList_append_src _ rfl (.tmp 114) (.tmp 117) 22 22 rfl w3.heap.size 5 i0 Tryd.underlying22 hi hz0 hz1 hz2 _ _ _ rfl hm _ _ _ rfl (RT.out.alloc _).src HL2.out.1 HL2.out.2 (by simp) ?_; intro v5 w5 ho5 hg5 _; have hb5 := ((Below.refl w3.heap.size w3).alloc (Nat.le_refl _) _).grown hg5 (by simp) (fun k hk => (hm.lt k hk).1); rw [Nat.zero_add, List.nil_append] at ho5; have HST5 := mkHid (HST3.out.fresh hb5 ho5); clear hm ho5 hg5 hb5))
              go_roundw
              case rel => exact ⟨i + 1, at' + n, m + n - K, done ++ r1, r2, _, by go_num, by go_num, mkHid HE.out.2.2.1, HE.out.2.1, HE.out.2.2.2.2, by omega, fun h => HLA.out (by omega), mkHid HE.out.2.2.2.1, by rw [← HE.out.1]; exact HST5.out⟩
              case measure => simp [intOf]; omega
            · obtain ⟨n, hn, hn1⟩ : ∃ n : Nat, n = Dn ∧ at' + n ≤ (Sx qs).length := ⟨Dn, rfl, by have := hD.out; omega⟩
              subst hn
              have HLA : Hid (i = I → at' + n = (Sx qs).length) := mkHid (fun h => by have := hD.out; omega)
              obtain ⟨K, wt2, pc, r1, r2, hpc, hpl2, hcat, hwl, hw2l, hB2, hspl, hKle, hdr, hm2, hq2, hnx, hat2⟩ := round_math (n := n) hP HQ.out HAT.out hn1
              obtain ⟨vsl, ssl, rsl⟩ := (Rd.of_owns (Sx_byts hP) HST.out.s).midS (at' : Int) ((at' : Int) + (n : Int)) at' (at' + n) rfl (by omega) (by omega) (by omega)
              rw [show at' + n - at' = n by omega, ← hpc] at rsl
              have RSL := mkHid rsl
              have hmn : m + n ≤ 2000000 := by have := HAT.out; omega
              have hdl : done.length + r1.length ≤ 40 := by
                have := congrArg List.length hq2
                rw [List.length_append, List.length_append] at this
                omega
              have HL : Hid ((((Sx rest).take m).length + pc.length ≤ maxLen ∧ ((Sx rest).take m).length + pc.length ≤ 140737488355328) ∧ done.length + r1.length ≤ maxLen ∧ (done.length + r1.length) * 24 ≤ 140737488355328) := mkHid ⟨⟨by unfold maxLen; omega, by omega⟩, by unfold maxLen; omega, by omega⟩
              have HL2 : Hid (0 + (wt2.drop K).length ≤ maxLen ∧ 0 + (wt2.drop K).length ≤ 140737488355328) := mkHid (by rw [List.length_drop]; exact ⟨by unfold maxLen; omega, by omega⟩)
              have HWT : Hid (((Sx rest).take m).length + pc.length = wt2.length ∧ (Sx rest).take m ++ pc = wt2) := mkHid ⟨by omega, hcat⟩
              have HSP := mkHid hspl
              have HB2 := mkHid hB2
              have hKl : K ≤ wt2.length := by omega
              have hKi : (K : Int) ≤ wt2.length := by omega
              have hw2 : (wt2.length : Int) ≤ 5000000 := by omega
              have HE := mkHid (And.intro hdr (And.intro hm2 (And.intro hq2 (And.intro hnx hat2))))
              have M1 : Hid True := trivial
              have M2 : Hid True := trivial
              generalize (Sx rest).take m = wt at *
              clear hpc hcat hspl hB2 hdr hm2 hq2 hnx hat2 rsl hwl hw2l hKle hpl2 hdl hmn
              go_wp2_with (first | (at_builtin; clear M1; refine wpList_append_src _ rfl (.tmp 82) (.tmp 88) 22 22 rfl w.heap.size 5 i0 Tryd.underlying22 hi hz0 hz1 hz2 _ _ _ rfl HST.out.v _ _ _ rfl RSL.out.src HL.out.1.1 HL.out.1.2 HST.out.bel.size ?_; intro v1 w1 ho1 hg1 hat1; rw [← List.map_append, HWT.out.2, HWT.out.1] at ho1; have HST1 := mkHid (HST.out.waits hg1 ho1 hat1); have hlen1 := (Rd.of_owns HB2.out ho1).lenS; have HR1 := mkHid (Rd.of_owns HB2.out ho1); have hc1L := cell_later HST1.out.bel HcL.out; have hc1S := cell_later HST1.out.bel HcS.out; clear hg1 hat1 ho1 HST) | (go_at_call 16; refine (split_any _ _ wt2 _ _ _ _ _ _ rfl rfl HR1.out hw2 hc1L hc1S).mono ?_; rintro e w2 hpost; rw [HSP.out] at hpost; obtain ⟨hb2, lv, H, rfl, hL2, hH2⟩ := hpost; have HST2 := mkHid (HST1.out.late hb2); obtain ⟨us, hur, husrc⟩ := hL2.src; obtain ⟨vs, hgo, hgr, hgd⟩ := HST2.out.g; have HH2 := mkHid hH2; have HU := mkHid (And.intro hur (And.intro hgr hgd)); have HBB : Hid (∀ k, ((Value.slice sa (Sx qs).length sc).ownBlock = some k ∨ u6.ownBlock = some k ∨ u11.ownBlock = some k ∨ v1.ownBlock = some k) → k < w1.heap.size) := mkHid (fun k hk => hk.elim (fun hk => (HST1.out.s.lt k hk).2) (fun hk => hk.elim (fun hk => (HST1.out.t.lt k hk).2) (fun hk => hk.elim (fun hk => (HST1.out.g.lt k hk).2) (fun hk => (HST1.out.v.lt k hk).2)))); have HS1 := mkHid HST1.out.bel.size; have hsz2 := HST2.out.bel.size; clear hb2 hL2 hH2 hur hgr hgd) | (at_builtin; clear M2; refine wpList_append_srcV _ rfl (.tmp 111) (.tmp 112) 35 35 rfl w.heap.size 22 i1 Tryd.underlying35 hj (.slice none 0 0) 24 hy0 rfl hy1 hy2 _ _ _ rfl hgo _ _ _ rfl husrc HL.out.2.1 HL.out.2.2 hsz2 ?_; intro v3 w3 ho3 hg3 hat3; rw [← List.length_append] at ho3; have HST3 := mkHid (HST2.out.got HU.out.2.1 HU.out.1 HBB.out HS1.out HH2.out HU.out.2.2 hg3 ho3 hat3); obtain ⟨vt, st, rt⟩ := (Rd.of_owns HB2.out HST3.out.v).tailS (K : Int) K rfl hKl; have RT := mkHid rt; clear rt ho3 hg3 hat3 hgo husrc) | (at_builtin; have hm := World.ownsRow_made (base := w3.heap.size) (e := 5) (size := 1) w3 #[] 0 (Nat.le_refl _) (by unfold maxLen; omega) rfl; refine wpList_append_src _ rfl (.tmp 114) (.tmp 117) 22 22 rfl w3.heap.size 5 i0 Tryd.underlying22 hi hz0 hz1 hz2 _ _ _ rfl hm _ _ _ rfl (RT.out.alloc _).src HL2.out.1 HL2.out.2 (by simp) ?_; intro v5 w5 ho5 hg5 _; have hb5 := ((Below.refl w3.heap.size w3).alloc (Nat.le_refl _) _).grown hg5 (by simp) (fun k hk => (hm.lt k hk).1); rw [Nat.zero_add, List.nil_append] at ho5; have HST5 := mkHid (HST3.out.fresh hb5 ho5); clear hm ho5 hg5 hb5))
              go_roundw
              case rel => exact ⟨i + 1, at' + n, m + n - K, done ++ r1, r2, _, by go_num, by go_num, mkHid HE.out.2.2.1, HE.out.2.1, HE.out.2.2.2.2, by omega, fun h => HLA.out (by omega), mkHid HE.out.2.2.2.1, by rw [← HE.out.1]; exact HST5.out⟩
              case measure => simp [intOf]; omega
          · by_cases hic : (i : Int) < cs.length
            · have hi59 : ¬ (i : Int) < 59 := by omega
              obtain ⟨n, hn, hn1⟩ : ∃ n : Nat, n = Dn ∧ at' + n ≤ (Sx qs).length := ⟨Dn, rfl, by have := hD.out; omega⟩
              subst hn
              have HLA : Hid (i = I → at' + n = (Sx qs).length) := mkHid (fun h => by have := hD.out; omega)
              obtain ⟨K, wt2, pc, r1, r2, hpc, hpl2, hcat, hwl, hw2l, hB2, hspl, hKle, hdr, hm2, hq2, hnx, hat2⟩ := round_math (n := n) hP HQ.out HAT.out hn1
              obtain ⟨vsl, ssl, rsl⟩ := (Rd.of_owns (Sx_byts hP) HST.out.s).midS (at' : Int) ((at' : Int) + (n : Int)) at' (at' + n) rfl (by omega) (by omega) (by omega)
              rw [show at' + n - at' = n by omega, ← hpc] at rsl
              have RSL := mkHid rsl
              have hmn : m + n ≤ 2000000 := by have := HAT.out; omega
              have hdl : done.length + r1.length ≤ 40 := by
                have := congrArg List.length hq2
                rw [List.length_append, List.length_append] at this
                omega
              have HL : Hid ((((Sx rest).take m).length + pc.length ≤ maxLen ∧ ((Sx rest).take m).length + pc.length ≤ 140737488355328) ∧ done.length + r1.length ≤ maxLen ∧ (done.length + r1.length) * 24 ≤ 140737488355328) := mkHid ⟨⟨by unfold maxLen; omega, by omega⟩, by unfold maxLen; omega, by omega⟩
              have HL2 : Hid (0 + (wt2.drop K).length ≤ maxLen ∧ 0 + (wt2.drop K).length ≤ 140737488355328) := mkHid (by rw [List.length_drop]; exact ⟨by unfold maxLen; omega, by omega⟩)
              have HWT : Hid (((Sx rest).take m).length + pc.length = wt2.length ∧ (Sx rest).take m ++ pc = wt2) := mkHid ⟨by omega, hcat⟩
              have HSP := mkHid hspl
              have HB2 := mkHid hB2
              have hKl : K ≤ wt2.length := by omega
              have hKi : (K : Int) ≤ wt2.length := by omega
              have hw2 : (wt2.length : Int) ≤ 5000000 := by omega
              have HE := mkHid (And.intro hdr (And.intro hm2 (And.intro hq2 (And.intro hnx hat2))))
              have M1 : Hid True := trivial
              have M2 : Hid True := trivial
              generalize (Sx rest).take m = wt at *
              clear hpc hcat hspl hB2 hdr hm2 hq2 hnx hat2 rsl hwl hw2l hKle hpl2 hdl hmn
              go_wp2_with (first | (at_builtin; clear M1; refine wpList_append_src _ rfl (.tmp 82) (.tmp 88) 22 22 rfl w.heap.size 5 i0 Tryd.underlying22 hi hz0 hz1 hz2 _ _ _ rfl HST.out.v _ _ _ rfl RSL.out.src HL.out.1.1 HL.out.1.2 HST.out.bel.size ?_; intro v1 w1 ho1 hg1 hat1; rw [← List.map_append, HWT.out.2, HWT.out.1] at ho1; have HST1 := mkHid (HST.out.waits hg1 ho1 hat1); have hlen1 := (Rd.of_owns HB2.out ho1).lenS; have HR1 := mkHid (Rd.of_owns HB2.out ho1); have hc1L := cell_later HST1.out.bel HcL.out; have hc1S := cell_later HST1.out.bel HcS.out; clear hg1 hat1 ho1 HST) | (go_at_call 16; refine (split_any _ _ wt2 _ _ _ _ _ _ rfl rfl HR1.out hw2 hc1L hc1S).mono ?_; rintro e w2 hpost; rw [HSP.out] at hpost; obtain ⟨hb2, lv, H, rfl, hL2, hH2⟩ := hpost; have HST2 := mkHid (HST1.out.late hb2); obtain ⟨us, hur, husrc⟩ := hL2.src; obtain ⟨vs, hgo, hgr, hgd⟩ := HST2.out.g; have HH2 := mkHid hH2; have HU := mkHid (And.intro hur (And.intro hgr hgd)); have HBB : Hid (∀ k, ((Value.slice sa (Sx qs).length sc).ownBlock = some k ∨ u6.ownBlock = some k ∨ u11.ownBlock = some k ∨ v1.ownBlock = some k) → k < w1.heap.size) := mkHid (fun k hk => hk.elim (fun hk => (HST1.out.s.lt k hk).2) (fun hk => hk.elim (fun hk => (HST1.out.t.lt k hk).2) (fun hk => hk.elim (fun hk => (HST1.out.g.lt k hk).2) (fun hk => (HST1.out.v.lt k hk).2)))); have HS1 := mkHid HST1.out.bel.size; have hsz2 := HST2.out.bel.size; clear hb2 hL2 hH2 hur hgr hgd) | (at_builtin; clear M2; refine wpList_append_srcV _ rfl (.tmp 111) (.tmp 112) 35 35 rfl w.heap.size 22 i1 Tryd.underlying35 hj (.slice none 0 0) 24 hy0 rfl hy1 hy2 _ _ _ rfl hgo _ _ _ rfl husrc HL.out.2.1 HL.out.2.2 hsz2 ?_; intro v3 w3 ho3 hg3 hat3; rw [← List.length_append] at ho3; have HST3 := mkHid (HST2.out.got HU.out.2.1 HU.out.1 HBB.out HS1.out HH2.out HU.out.2.2 hg3 ho3 hat3); obtain ⟨vt, st, rt⟩ := (Rd.of_owns HB2.out HST3.out.v).tailS (K : Int) K rfl hKl; have RT := mkHid rt; clear rt ho3 hg3 hat3 hgo husrc) | (at_builtin; have hm := World.ownsRow_made (base := w3.heap.size) (e := 5) (size := 1) w3 #[] 0 (Nat.le_refl _) (by unfold maxLen; omega) rfl; refine wpList_append_src _ rfl (.tmp 114) (.tmp 117) 22 22 rfl w3.heap.size 5 i0 Tryd.underlying22 hi hz0 hz1 hz2 _ _ _ rfl hm _ _ _ rfl (RT.out.alloc _).src HL2.out.1 HL2.out.2 (by simp) ?_; intro v5 w5 ho5 hg5 _; have hb5 := ((Below.refl w3.heap.size w3).alloc (Nat.le_refl _) _).grown hg5 (by simp) (fun k hk => (hm.lt k hk).1); rw [Nat.zero_add, List.nil_append] at ho5; have HST5 := mkHid (HST3.out.fresh hb5 ho5); clear hm ho5 hg5 hb5))
              go_roundw
              case rel => exact ⟨i + 1, at' + n, m + n - K, done ++ r1, r2, _, by go_num, by go_num, mkHid HE.out.2.2.1, HE.out.2.1, HE.out.2.2.2.2, by omega, fun h => HLA.out (by omega), mkHid HE.out.2.2.2.1, by rw [← HE.out.1]; exact HST5.out⟩
              case measure => simp [intOf]; omega
            · obtain ⟨n, hn, hn1⟩ : ∃ n : Nat, n = Dn ∧ at' + n ≤ (Sx qs).length := ⟨Dn, rfl, by have := hD.out; omega⟩
              subst hn
              have HLA : Hid (i = I → at' + n = (Sx qs).length) := mkHid (fun h => by have := hD.out; omega)
              obtain ⟨K, wt2, pc, r1, r2, hpc, hpl2, hcat, hwl, hw2l, hB2, hspl, hKle, hdr, hm2, hq2, hnx, hat2⟩ := round_math (n := n) hP HQ.out HAT.out hn1
              obtain ⟨vsl, ssl, rsl⟩ := (Rd.of_owns (Sx_byts hP) HST.out.s).midS (at' : Int) ((at' : Int) + (n : Int)) at' (at' + n) rfl (by omega) (by omega) (by omega)
              rw [show at' + n - at' = n by omega, ← hpc] at rsl
              have RSL := mkHid rsl
              have hmn : m + n ≤ 2000000 := by have := HAT.out; omega
              have hdl : done.length + r1.length ≤ 40 := by
                have := congrArg List.length hq2
                rw [List.length_append, List.length_append] at this
                omega
              have HL : Hid ((((Sx rest).take m).length + pc.length ≤ maxLen ∧ ((Sx rest).take m).length + pc.length ≤ 140737488355328) ∧ done.length + r1.length ≤ maxLen ∧ (done.length + r1.length) * 24 ≤ 140737488355328) := mkHid ⟨⟨by unfold maxLen; omega, by omega⟩, by unfold maxLen; omega, by omega⟩
              have HL2 : Hid (0 + (wt2.drop K).length ≤ maxLen ∧ 0 + (wt2.drop K).length ≤ 140737488355328) := mkHid (by rw [List.length_drop]; exact ⟨by unfold maxLen; omega, by omega⟩)
              have HWT : Hid (((Sx rest).take m).length + pc.length = wt2.length ∧ (Sx rest).take m ++ pc = wt2) := mkHid ⟨by omega, hcat⟩
              have HSP := mkHid hspl
              have HB2 := mkHid hB2
              have hKl : K ≤ wt2.length := by omega
              have hKi : (K : Int) ≤ wt2.length := by omega
              have hw2 : (wt2.length : Int) ≤ 5000000 := by omega
              have HE := mkHid (And.intro hdr (And.intro hm2 (And.intro hq2 (And.intro hnx hat2))))
              have M1 : Hid True := trivial
              have M2 : Hid True := trivial
              generalize (Sx rest).take m = wt at *
              clear hpc hcat hspl hB2 hdr hm2 hq2 hnx hat2 rsl hwl hw2l hKle hpl2 hdl hmn
              go_wp2_with (first | (at_builtin; clear M1; refine wpList_append_src _ rfl (.tmp 82) (.tmp 88) 22 22 rfl w.heap.size 5 i0 Tryd.underlying22 hi hz0 hz1 hz2 _ _ _ rfl HST.out.v _ _ _ rfl RSL.out.src HL.out.1.1 HL.out.1.2 HST.out.bel.size ?_; intro v1 w1 ho1 hg1 hat1; rw [← List.map_append, HWT.out.2, HWT.out.1] at ho1; have HST1 := mkHid (HST.out.waits hg1 ho1 hat1); have hlen1 := (Rd.of_owns HB2.out ho1).lenS; have HR1 := mkHid (Rd.of_owns HB2.out ho1); have hc1L := cell_later HST1.out.bel HcL.out; have hc1S := cell_later HST1.out.bel HcS.out; clear hg1 hat1 ho1 HST) | (go_at_call 16; refine (split_any _ _ wt2 _ _ _ _ _ _ rfl rfl HR1.out hw2 hc1L hc1S).mono ?_; rintro e w2 hpost; rw [HSP.out] at hpost; obtain ⟨hb2, lv, H, rfl, hL2, hH2⟩ := hpost; have HST2 := mkHid (HST1.out.late hb2); obtain ⟨us, hur, husrc⟩ := hL2.src; obtain ⟨vs, hgo, hgr, hgd⟩ := HST2.out.g; have HH2 := mkHid hH2; have HU := mkHid (And.intro hur (And.intro hgr hgd)); have HBB : Hid (∀ k, ((Value.slice sa (Sx qs).length sc).ownBlock = some k ∨ u6.ownBlock = some k ∨ u11.ownBlock = some k ∨ v1.ownBlock = some k) → k < w1.heap.size) := mkHid (fun k hk => hk.elim (fun hk => (HST1.out.s.lt k hk).2) (fun hk => hk.elim (fun hk => (HST1.out.t.lt k hk).2) (fun hk => hk.elim (fun hk => (HST1.out.g.lt k hk).2) (fun hk => (HST1.out.v.lt k hk).2)))); have HS1 := mkHid HST1.out.bel.size; have hsz2 := HST2.out.bel.size; clear hb2 hL2 hH2 hur hgr hgd) | (at_builtin; clear M2; refine wpList_append_srcV _ rfl (.tmp 111) (.tmp 112) 35 35 rfl w.heap.size 22 i1 Tryd.underlying35 hj (.slice none 0 0) 24 hy0 rfl hy1 hy2 _ _ _ rfl hgo _ _ _ rfl husrc HL.out.2.1 HL.out.2.2 hsz2 ?_; intro v3 w3 ho3 hg3 hat3; rw [← List.length_append] at ho3; have HST3 := mkHid (HST2.out.got HU.out.2.1 HU.out.1 HBB.out HS1.out HH2.out HU.out.2.2 hg3 ho3 hat3); obtain ⟨vt, st, rt⟩ := (Rd.of_owns HB2.out HST3.out.v).tailS (K : Int) K rfl hKl; have RT := mkHid rt; clear rt ho3 hg3 hat3 hgo husrc) | (at_builtin; have hm := World.ownsRow_made (base := w3.heap.size) (e := 5) (size := 1) w3 #[] 0 (Nat.le_refl _) (by unfold maxLen; omega) rfl; refine wpList_append_src _ rfl (.tmp 114) (.tmp 117) 22 22 rfl w3.heap.size 5 i0 Tryd.underlying22 hi hz0 hz1 hz2 _ _ _ rfl hm _ _ _ rfl (RT.out.alloc _).src HL2.out.1 HL2.out.2 (by simp) ?_; intro v5 w5 ho5 hg5 _; have hb5 := ((Below.refl w3.heap.size w3).alloc (Nat.le_refl _) _).grown hg5 (by simp) (fun k hk => (hm.lt k hk).1); rw [Nat.zero_add, List.nil_append] at ho5; have HST5 := mkHid (HST3.out.fresh hb5 ho5); clear hm ho5 hg5 hb5))
              go_roundw
              case rel => exact ⟨i + 1, at' + n, m + n - K, done ++ r1, r2, _, by go_num, by go_num, mkHid HE.out.2.2.1, HE.out.2.1, HE.out.2.2.2.2, by omega, fun h => HLA.out (by omega), mkHid HE.out.2.2.2.1, by rw [← HE.out.1]; exact HST5.out⟩
              case measure => simp [intOf]; omega
        · obtain rfl : i = I + 1 := by omega
          have hat2 := HLST.out rfl
          have hgen : (Sx qs).length = (Sx done).length + (Sx rest).length := by rw [HQ.out, Sx_append, List.length_append]
          have hat3 := HAT.out
          have hrest : rest = [] := by
            cases rest with
            | nil => rfl
            | cons q r =>
              have h1 := HM.out (by simp)
              have h2 : (Sx (q :: r)).length = q.length + 8 + (Sx r).length := by simp only [Sx, List.length_append, frame_len]
              simp at h1
              omega
          subst hrest
          have hqd : qs = done := by rw [HQ.out, List.append_nil]
          have hST := HST.out
          rw [show (Sx []).take m = [] by simp [Sx]] at hST
          have hgL := hST.g
          rw [← hqd] at hgL
          obtain ⟨wa, wc, ewv⟩ := own_shape hST.v
          have hTL := hST.t
          have hbl := hST.bel
          have hql : (qs.length : Int) ≤ 140737488355328 := by omega
          have HGL := mkHid (And.intro hgL hTL)
          rw [ewv]
          rw [hat2]
          clear hST hgL hTL HST HQ HM HLST hqd hat2 hgen hat3 HAT
          by_cases hle : ((I + 1 : Nat) : Int) ≤ cs.length
          · have h60 : ¬ ((I + 1 : Nat) : Int) < 60 := by omega
            go_wp2_with (go_at_call 18; refine (same_any _ _ _ qs _ _ _ _ HGL.out.1 HGL.out.2 hql).mono ?_; rintro e w8 ⟨rfl, k, rfl⟩)
            go_ret
            exact ⟨rfl, hbl.trans ((drewN_below _ _).mono hbl.size)⟩
          · go_wp2_with (go_at_call 18; refine (same_any _ _ _ qs _ _ _ _ HGL.out.1 HGL.out.2 hql).mono ?_; rintro e w8 ⟨rfl, k, rfl⟩)
            go_ret
            exact ⟨rfl, hbl.trans ((drewN_below _ _).mono hbl.size)⟩
end Go.Proofs.YtdegekoobgoekaaDoor
