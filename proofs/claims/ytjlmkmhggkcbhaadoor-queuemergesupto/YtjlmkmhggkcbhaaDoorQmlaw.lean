/- QueueMerges: without the document's answers: Merge and Least. -/
import Derived.Test.YtjlmkmhggkcbhaaDoorQmsv
namespace Go.Proofs.YtjlmkmhggkcbhaaDoor
open Go.ChangeShapes Go.WideShapes Go.ChangeAt Go.RowKit
set_option maxRecDepth 100000
set_option linter.unusedVariables false

theorem drewN_below (w : World) (n : Nat) : Below w.heap.size w (w.drewN n) := ⟨rfl, rfl, rfl, Nat.le_refl _, fun _ _ => rfl⟩
theorem atN_take {s o : List Int} {k : Nat} {x : Int} (hx : o[k]? = some x) : atN s 0 (o.take (k + 1)) = at1 s (atN s 0 (o.take k)) x := by
  rw [List.take_add_one, hx]
  generalize o.take k = l
  have : ∀ (l : List Int) (a : Nat), atN s a (l ++ [x]) = at1 s (atN s a l) x := by
    intro l
    induction l with
    | nil => intro a; simp [atN]
    | cons y r ih => intro a; simp only [List.cons_append, atN]; exact ih _
  exact this l 0
theorem atN_le (s m : List Int) : atN s 0 m ≤ s.length := (atN_scan s m 0 (Nat.zero_le _)).1
theorem lcount_self {k l : Nat} (h : k ≤ l) : lcount (k : Int) l = k := by unfold lcount; split <;> omega
theorem Nf.step {l : List Int} (h : Nf l) {k : Nat} (hk : k + 1 < l.length) : l.getD k 0 ≤ l.getD (k + 1) 0 := by
  have := List.pairwise_iff_getElem.mp h k (k + 1) (by omega) hk (by omega)
  simpa [List.getD, hk, show k < l.length by omega] using this
set_option maxHeartbeats 6400000 in
theorem merges_walk (w : World) (v0 : Value) (ps : List (List Int)) (us : List Value) (n : Int) (h0 : Lsl w v0 ps us) (hl : ps.length ≤ 1048576) (ht : tot ps ≤ 1048576) :
    Calls Tryd.prog 6 #[v0, .int .i64 n] w fun e w' => e = .returned (.bool true) ∧ Below w.heap.size w w' := by
  obtain ⟨a0, c0, rfl, _, hx0⟩ := id h0
  have H := mkHid h0
  have HL := mkHid hl
  have HT := mkHid ht
  have hli : (ps.length : Int) ≤ 1048576 := by omega
  obtain ⟨ie, hie⟩ : ∃ ie, Hid (Tryd.prog.info? 3 = some ie ∧ ie.zero = some (.int .i64 0) ∧ ie.size = 1 ∧ ie.bytes = 8) := by
    obtain ⟨ie, h1, h2, h3, h4⟩ := info_parts infoIntM
    exact ⟨ie, mkHid ⟨h1, h2, h3, h4⟩⟩
  obtain ⟨je, hje⟩ : ∃ ie, Hid (Tryd.prog.info? 36 = some ie ∧ ie.zero = some vnil ∧ ie.size = 1 ∧ ie.bytes = 24) := by
    obtain ⟨ie, h1, h2, h3, h4⟩ := info_parts infoSl
    exact ⟨ie, mkHid ⟨h1, h2, h3, h4⟩⟩
  clear h0 hl ht hx0
  go_enter Tryd.func6, Tryd.ntmps6
  go_wp2_with (first | (go_at_call 8; refine (alive_q _).mono ?_; rintro e w1 ⟨rfl, hb1'⟩; have HB1 := mkHid hb1'; clear hb1'))
  have HS : Hid (Sv w (w1.alloc (.cells #[] 36)) (.slice (some ⟨w1.heap.size, 0, none⟩) 0 0) [] []) := mkHid ⟨World.ownsRow_made (base := w.heap.size) (e := 36) (size := 1) w1 #[] 0 HB1.out.size (by unfold maxLen; omega) rfl, fun i hi => by simp at hi, fun i hi => by simp at hi, fun i hi => by simp at hi, HB1.out.alloc HB1.out.size _⟩
  go_loopw [5, 6, 26] (fun sv tv iv wr => ∃ (j : Nat) (ss : List (List Int)) (vs : List Value), iv = .int .i64 (j : Int) ∧ j ≤ ps.length ∧ ss.length = j ∧ tv = .int .i64 (tot ss : Int) ∧ tot ss ≤ tot (ps.take j) ∧ Sv w wr sv ss vs) (fun _ _ iv _ => ps.length - (intOf iv).toNat)
  case atStart => exact ⟨0, [], [], rfl, Nat.zero_le _, rfl, rfl, by simp [tot], HS.out⟩
  case round =>
    clear HS HB1
    obtain ⟨j, ss, vs, rfl, hj, hsj, rfl, htt, hS⟩ := hrel
    have HS := mkHid hS
    obtain ⟨sa, sc, hsv⟩ := own_shape hS.o
    subst hsv
    clear hS
    by_cases hlt : j < ps.length
    · obtain ⟨b, off, a1, c1, rfl, _, x0, hx⟩ := H.out.at HS.out.b j hlt
      have hji : (j : Int) < ps.length := by omega
      have t1 := tot_take hlt
      have t2 := tot_take_le ps (j + 1)
      obtain ⟨l, hl⟩ : ∃ l, l = (la ps j).length := ⟨_, rfl⟩
      obtain ⟨s, hs⟩ : ∃ s, s = tot ss := ⟨_, rfl⟩
      rw [← hl] at x0 hx t1
      have hsl : (s : Int) + l ≤ 1048576 := by have := HT.out; omega
      have HTOT : Hid (s + l ≤ tot (ps.take (j + 1)) ∧ ss.length = j ∧ s = tot ss) := mkHid ⟨by omega, hsj, hs⟩
      rw [← hs]
      have HX : Hid (0 < l → ∃ g o, a1 = some ⟨g, o, none⟩ ∧ ∀ k, k < l → wr.cell? ⟨g, o + k, none⟩ = some (.int .i64 ((la ps j).getD k 0))) := mkHid hx
      have HSJ := mkHid hsj
      have hjl : j ≤ 1048576 := by omega
      clear t1 t2 hs hx htt hl hsj
      go_wp2
      have HS1 : Hid (S1 wr (wr.alloc (.cells #[] 3)) (.slice (some ⟨wr.heap.size, 0, none⟩) 0 0) []) := mkHid ⟨World.ownsRow_made (base := wr.heap.size) (e := 3) (size := 1) wr #[] 0 (Nat.le_refl _) (by unfold maxLen; omega) rfl, List.Pairwise.nil, (Below.refl _ wr).alloc (Nat.le_refl _) _⟩
      rename World => wo
      go_loopw [9, 33] (fun zv iv wi => ∃ (i : Nat) (zs : List Int), iv = .int .i64 (i : Int) ∧ i ≤ l ∧ zs.length ≤ i ∧ S1 wo wi zv zs) (fun _ iv _ => l - (intOf iv).toNat)
      case atStart => exact ⟨0, [], rfl, Nat.zero_le _, by simp, HS1.out⟩
      case round =>
        clear HS1
        obtain ⟨i, zs, rfl, hi, hzi, hS1⟩ := hrel
        have HS1 := mkHid hS1
        obtain ⟨za, zc, hzv⟩ := own_shape hS1.1
        subst hzv
        clear hS1
        have HLZ : Hid (zs.length + 1 ≤ 1048577) := mkHid (by omega)
        by_cases hil : i < l
        · obtain ⟨g, o, rfl, hc⟩ := HX.out (by omega)
          obtain ⟨x, hxx⟩ : ∃ x, x = (la ps j).getD i 0 := ⟨_, rfl⟩
          have y0 := bcell HS1.out.2.2 (hc i hil)
          rw [← hxx] at y0
          have hii : (i : Int) < l := by omega
          clear hc hxx
          by_cases hz : zs.length = 0
          · have HHX : Hid (zs.length = 0 ∨ zs.getD (zs.length - 1) 0 ≤ x) := mkHid (.inl hz)
            have hzi0 : (zs.length : Int) = 0 := by omega
            clear hz
            go_wp2_with (first | (at_builtin; refine wpList_append_srcV _ rfl (.tmp 50) (.tmp 52) 36 36 rfl wo.heap.size 3 ie Tryd.underlying36 hie.out.1 (.int .i64 0) 8 hie.out.2.1 rfl hie.out.2.2.1 hie.out.2.2.2 (.slice za zs.length zc) zs.length (zs.map (Value.int .i64)) rfl (own_keep HS1.out.1 (kept_below (fun _ => False) ((Below.refl _ wr).alloc (Nat.le_refl _) _)) (fun _ _ => id)) (.slice (some ⟨wr.heap.size, 0, none⟩) 1 1) 1 [.int .i64 x] rfl (src_int2 wr x _ rfl) (by have := HLZ.out; unfold maxLen; omega) (by have := HLZ.out; omega) (by have := HS1.out.2.2.size; simp; omega) ?_; intro v2 w2 ho2 hg2 hat2; have HN := mkHid (HS1.out.put HHX.out ho2 hg2); obtain ⟨va, vc, rfl⟩ := own_shape ho2; clear ho2 hg2 hat2))
            go_roundw
            case rel => exact ⟨i + 1, zs ++ [x], by go_num, by omega, by simp; omega, HN.out⟩
            case measure => simp [intOf]; omega
          · obtain ⟨zg, rfl, _⟩ := own_some HS1.out.1 (by omega)
            obtain ⟨y, hy⟩ : ∃ y, y = zs.getD (zs.length - 1) 0 := ⟨_, rfl⟩
            obtain ⟨k, hk⟩ : ∃ k, zs.length = k + 1 := ⟨zs.length - 1, by omega⟩
            have y1 : wr.cell? ⟨zg, k, none⟩ = some (.int .i64 y) := own_at HS1.out.1 k _ (by rw [hy, hk]; simp [List.getD, show k < zs.length by omega])
            have HO1 : Hid (wr.ownsRow wo.heap.size 3 1 (.slice (some ⟨zg, 0, none⟩) (k + 1) zc) (k + 1) (zs.map (Value.int .i64))) := mkHid (by have := HS1.out.1; rw [hk] at this; exact this)
            have HLZ2 : Hid (k + 2 ≤ 1048577) := mkHid (by omega)
            have HKK := mkHid hk
            rw [hk]
            have hk0 : ¬ (k : Int) + 1 = 0 := by omega
            have hk1 : (k : Int) ≤ 1048576 := by omega
            by_cases hyx : y ≤ x
            · have HHX : Hid (zs.length = 0 ∨ zs.getD (zs.length - 1) 0 ≤ x) := mkHid (.inr (by rw [← hy]; exact hyx))
              clear hy hz hk
              go_wp2_with (first | (at_builtin; refine wpList_append_srcV _ rfl (.tmp 50) (.tmp 52) 36 36 rfl wo.heap.size 3 ie Tryd.underlying36 hie.out.1 (.int .i64 0) 8 hie.out.2.1 rfl hie.out.2.2.1 hie.out.2.2.2 (.slice (some ⟨zg, 0, none⟩) (k + 1) zc) (k + 1) (zs.map (Value.int .i64)) rfl (own_keep HO1.out (kept_below (fun _ => False) ((Below.refl _ wr).alloc (Nat.le_refl _) _)) (fun _ _ => id)) (.slice (some ⟨wr.heap.size, 0, none⟩) 1 1) 1 [.int .i64 x] rfl (src_int2 wr x _ rfl) (by have := HLZ2.out; unfold maxLen; omega) (by have := HLZ2.out; omega) (by have := HS1.out.2.2.size; simp; omega) ?_; intro v2 w2 ho2 hg2 hat2; have HN := mkHid (HS1.out.put HHX.out (by rw [HKK.out]; exact ho2) hg2); obtain ⟨va, vc, rfl⟩ := own_shape ho2; clear ho2 hg2 hat2))
              go_roundw
              case rel => exact ⟨i + 1, zs ++ [x], by go_num, by omega, by simp; omega, HN.out⟩
              case measure => simp [intOf]; omega
            · clear hy hz hk
              go_wp2
              go_roundw
              case rel => exact ⟨i + 1, zs, by go_num, by omega, by omega, by rw [HKK.out] at HS1; exact HS1.out⟩
              case measure => simp [intOf]; omega
        · obtain rfl : i = l := by omega
          have HSL := mkHid (HS.out.late HS1.out.2.2)
          have HLS : Hid (ss.length + 1 ≤ 1048577) := mkHid (by have := HSJ.out; omega)
          have hzl : (zs.length : Int) ≤ i := by omega
          go_wp2_with (first | (at_builtin; refine wpList_append_srcV _ rfl (.tmp 59) (.tmp 61) 37 37 rfl w.heap.size 36 je Tryd.underlying37 hje.out.1 vnil 24 hje.out.2.1 rfl hje.out.2.2.1 hje.out.2.2.2 (.slice sa ss.length sc) ss.length vs rfl (own_keep HSL.out.o (kept_below (fun _ => False) ((Below.refl _ wr).alloc (Nat.le_refl _) _)) (fun _ _ => id)) (.slice (some ⟨wr.heap.size, 0, none⟩) 1 1) 1 [.slice za zs.length zc] rfl (src_sl1 wr za zs.length zc) (by have := HLS.out; unfold maxLen; omega) (by have := HLS.out; omega) (by have := HSL.out.b.size; simp; omega) ?_; intro v2 w2 ho2 hg2 hat2; have HN := mkHid (HSL.out.put (own_slc HS1.out.1) HS1.out.2.1 (fun k hk => ⟨(HS1.out.1.lt k hk).2, fun e => (by have h1 := (HS1.out.1.lt k hk).1; have h2 := (HS.out.o.lt k e).2; omega)⟩) ho2 hg2 hat2); obtain ⟨va, vc, rfl⟩ := own_shape ho2; clear ho2 hg2 hat2))
          go_roundw
          case rel => exact ⟨j + 1, ss ++ [zs], vs ++ [.slice za zs.length zc], by go_num, by omega, by simp [HSJ.out], by rw [tot_snoc, ← HTOT.out.2.2]; simp, by rw [tot_snoc, ← HTOT.out.2.2]; have := HTOT.out.1; omega, HN.out⟩
          case measure => simp [intOf]; omega
    · obtain rfl : j = ps.length := by omega
      have HSS : Hid (ss.length ≤ 1048576 ∧ tot ss ≤ 1048576) := mkHid ⟨by have := HL.out; omega, by have := HT.out; have := tot_take_le ps ps.length; omega⟩
      have HNF : Hid (∀ i, i < ss.length → Nf (la ss i)) := mkHid HS.out.n
      have HBW : Hid (Below w.heap.size w wr) := mkHid HS.out.b
      have HLS := mkHid HS.out.lsl
      obtain ⟨T, hT⟩ : ∃ T, T = tot ss := ⟨_, rfl⟩
      have hTi : (T : Int) ≤ 1048576 := by have := HSS.out.2; omega
      have hmerge := merge_is wr _ ss vs HS.out.lsl HSS.out.1 HSS.out.2
      rw [← hT] at hmerge ⊢
      have HMG := mkHid hmerge
      have HTT := mkHid hT
      clear hmerge hT htt hsj hlt hj HS
      go_wp2_with (first | (go_at_call 16; refine HMG.out.mono ?_; rintro e w2 ⟨o, ma, mc, rfl, h2⟩; have HM2 := h2; clear h2))
      have hol : o.length = T := by rw [HM2.out.1.len, HTT.out]
      subst hol
      have HSo : Hid (Sl w2 (.slice ma o.length mc) o) := mkHid (own_slc HM2.out.2.1).sl
      have HNo : Hid (Nf o) := mkHid (by obtain ⟨bs, h1, h2, rfl⟩ := HM2.out.1; exact outs_nf h1 HNF.out)
      have HIN : Hid (∀ i, i < ss.length → (la ss i).Sublist o) := mkHid (fun i hi => by obtain ⟨bs, h1, h2, rfl⟩ := HM2.out.1; exact la_in h1 h2 i hi)
      have HLs2 : Hid (Lsl w2 (.slice sa ss.length sc) ss vs) := mkHid (HLS.out.below HM2.out.2.2)
      have HB2 : Hid (Below w.heap.size w w2) := mkHid (HBW.out.trans (HM2.out.2.2.mono HBW.out.size))
      clear HM2 HLS HBW HMG HNF
      go_loopw [13] (fun iv wx => ∃ k q : Nat, iv = .int .i64 ((k : Int) + 1) ∧ (k + 1 ≤ o.length ∨ k = 0) ∧ wx = w2.drewN q) (fun iv _ => o.length + 1 - (intOf iv).toNat)
      case atStart => exact ⟨0, 0, rfl, .inr rfl, rfl⟩
      case round =>
        obtain ⟨k, q, rfl, hk, rfl⟩ := hrel
        by_cases hlt : k + 1 < o.length
        · obtain ⟨g, off, rfl, x0⟩ := HSo.out.at k (by omega)
          obtain ⟨g', off', e, x1⟩ := HSo.out.at (k + 1) hlt
          simp only [Option.some.injEq, Addr.mk.injEq, and_true] at e
          obtain ⟨rfl, rfl⟩ := e
          have hxy := HNo.out.step hlt
          generalize o.getD k 0 = x at x0 hxy
          generalize o.getD (k + 1) 0 = y at x1 hxy
          have hki : (k : Int) + 1 < o.length := by omega
          go_wp2
          go_quiet (fail)
          go_wp2
          go_roundw
          case rel => exact ⟨k + 1, q + nq, by go_num, .inl (by omega), by simp [World.drewN]⟩
          case measure => simp [intOf]; omega
        · have hki : ¬ (k : Int) + 1 < o.length := by omega
          have hb3 := drewN_below w2 q
          have HSo3 : Hid (Sl (w2.drewN q) (.slice ma o.length mc) o) := mkHid (HSo.out.below hb3)
          have HLs3 : Hid (Lsl (w2.drewN q) (.slice sa ss.length sc) ss vs) := mkHid (HLs2.out.below hb3)
          have HB3 : Hid (Below w.heap.size w (w2.drewN q)) := mkHid (HB2.out.trans (hb3.mono HB2.out.size))
          clear hb3 HSo HLs2 HB2 hk hlt
          generalize w2.drewN q = w3 at *
          have hsi : (ss.length : Int) ≤ 1048576 := by have := HSS.out.1; omega
          go_wp2
          clear hki
          go_loopw [88] (fun iv wx => ∃ j : Nat, iv = .int .i64 (j : Int) ∧ j ≤ ss.length ∧ wx = w3) (fun iv _ => ss.length - (intOf iv).toNat)
          case atStart => exact ⟨0, rfl, Nat.zero_le _, rfl⟩
          case round =>
            obtain ⟨j, rfl, hj, hwx⟩ := hrel
            obtain rfl := hwx.symm
            by_cases hlt : j < ss.length
            · obtain ⟨sb, so, a1, c1, rfl, _, x0, hx⟩ := HLs3.out.at (Below.refl _ _) j hlt
              have hji : (j : Int) < ss.length := by omega
              have HSUB := mkHid (HIN.out j hlt)
              obtain ⟨s, hs⟩ : ∃ s, s = la ss j := ⟨_, rfl⟩
              rw [← hs] at x0 hx HSUB
              have HX := mkHid hx
              have hsl : (s.length : Int) ≤ 1048576 := by have := la_le_tot ss j; rw [← hs] at this; have := HSS.out.2; omega
              clear hx hs
              go_wp2
              go_loopw [16, 94] (fun av iv wx => ∃ k : Nat, av = .int .i64 ((atN s 0 (o.take k) : Nat) : Int) ∧ iv = .int .i64 (k : Int) ∧ k ≤ o.length ∧ wx = w3) (fun _ iv _ => o.length - (intOf iv).toNat)
              case atStart => exact ⟨0, by simp [atN], rfl, Nat.zero_le _, rfl⟩
              case round =>
                obtain ⟨k, rfl, rfl, hk, hwx⟩ := hrel
                obtain rfl := hwx.symm
                by_cases hkt : k < o.length
                · obtain ⟨g, off, rfl, y0⟩ := HSo3.out.at k hkt
                  have hki : (k : Int) < o.length := by omega
                  have HAT := mkHid (atN_take (s := s) (List.getElem?_eq_getElem hkt))
                  have hxe : o.getD k 0 = o[k] := by simp [List.getD, hkt]
                  rw [hxe] at y0
                  generalize o[k] = x at y0 HAT
                  have hp := atN_le s (o.take k)
                  generalize atN s 0 (o.take k) = p at hp HAT ⊢
                  have hpi : (p : Int) ≤ s.length := by omega
                  clear hxe
                  by_cases hps : p < s.length
                  · obtain ⟨g1, o1, rfl, hc⟩ := HX.out (by omega)
                    have z0 := hc p hps
                    obtain ⟨y, hy⟩ : ∃ y, y = s.getD p 0 := ⟨_, rfl⟩
                    rw [← hy] at z0
                    have hpl : (p : Int) < s.length := by omega
                    have HAT2 : Hid (at1 s p x = if y = x then p + 1 else p) := mkHid (by unfold at1; rw [← hy]; by_cases e : y = x <;> simp [e, hps])
                    clear hc hy
                    by_cases hyx : y = x
                    · subst hyx
                      have HF : Hid (atN s 0 (o.take (k + 1)) = p + 1) := mkHid (by rw [HAT.out, HAT2.out]; simp)
                      clear HAT HAT2
                      go_wp2
                      go_roundw
                      case rel => exact ⟨k + 1, by rw [HF.out]; go_num, by go_num, by omega, trivial⟩
                      case measure => simp [intOf]; omega
                    · have HF : Hid (atN s 0 (o.take (k + 1)) = p) := mkHid (by rw [HAT.out, HAT2.out, if_neg hyx])
                      have hyb : (y == x) = false := by simpa using hyx
                      clear HAT HAT2
                      go_wp2
                      go_roundw
                      case rel => exact ⟨k + 1, by rw [HF.out], by go_num, by omega, trivial⟩
                      case measure => simp [intOf]; omega
                  · have HF : Hid (atN s 0 (o.take (k + 1)) = p) := mkHid (by rw [HAT.out]; unfold at1; rw [if_neg (fun h => hps h.1)])
                    have hpl : ¬ (p : Int) < s.length := by omega
                    clear HAT
                    go_wp2
                    go_roundw
                    case rel => exact ⟨k + 1, by rw [HF.out], by go_num, by omega, trivial⟩
                    case measure => simp [intOf]; omega
                · obtain rfl : k = o.length := by omega
                  rw [List.take_of_length_le (Nat.le_refl _), atN_all HSUB.out]
                  go_wp2
                  go_roundw
                  case rel => exact ⟨j + 1, by go_num, by omega, trivial⟩
                  case measure => simp [intOf]; omega
            · obtain rfl : j = ss.length := by omega
              obtain ⟨kk, hkk⟩ : ∃ kk, kk = lcount n o.length := ⟨_, rfl⟩
              have hmm : min (max n 0) (o.length : Int) = (kk : Int) := by rw [hkk]; exact lcount_min n o.length
              have hkl : kk ≤ o.length := by rw [hkk]; exact lcount_le n o.length
              have HKS : Hid (kk = lcount (kk : Int) o.length) := mkHid (lcount_self hkl).symm
              have HLB1 : Hid (∀ W, Below w3.heap.size w3 W → Calls Tryd.prog 12 #[.slice ma o.length mc, .int .i64 (o.length : Int)] W fun e w' => ∃ a c, e = .returned (.slice a o.length c) ∧ Hid ((0 < o.length → ∃ g, a = some ⟨g, 0, none⟩ ∧ IR w' g (leastL o (o.length : Int)) ∧ W.heap.size ≤ g ∧ g < w'.heap.size) ∧ (a = none → c = 0) ∧ o.length ≤ c ∧ Below W.heap.size W w')) := mkHid (fun W hW => by
                have := least_sl W (.slice ma o.length mc) o (o.length : Int) (HSo3.out.below hW) (by omega)
                rw [lcount_all] at this
                exact this)
              have HLB2 : Hid (∀ W, Below w3.heap.size w3 W → Calls Tryd.prog 12 #[.slice ma o.length mc, .int .i64 (kk : Int)] W fun e w' => ∃ a c, e = .returned (.slice a kk c) ∧ Hid ((0 < kk → ∃ g, a = some ⟨g, 0, none⟩ ∧ IR w' g (leastL o (kk : Int)) ∧ W.heap.size ≤ g ∧ g < w'.heap.size) ∧ (a = none → c = 0) ∧ kk ≤ c ∧ Below W.heap.size W w')) := mkHid (fun W hW => by
                have := least_sl W (.slice ma o.length mc) o (kk : Int) (HSo3.out.below hW) (by omega)
                rw [← HKS.out] at this
                exact this)
              have hkli : (kk : Int) ≤ o.length := by omega
              have M1 : Hid True := mkHid trivial
              clear hkk hlt hj hkl
              go_wp2_with (first
                | (go_at_call 12; clear M1; refine (HLB1.out w3 (Below.refl _ _)).mono ?_; rintro e w4 ⟨a4, c4, rfl, h4⟩; have HL4 := h4; have hc4 : (o.length : Int) ≤ c4 := (by have := h4.out.2.2.1; omega); clear h4)
                | (go_at_call 12; refine (HLB2.out w4 HL4.out.2.2.2).mono ?_; rintro e w5 ⟨a5, c5, rfl, h5⟩; have HL5 := h5; clear h5)
                | (go_at_call 13; refine (same_true w5 _ _ (leastL o (kk : Int)) (some_sl HKS.out HL5.out.1) (cut_sl HKS.out HL4.out.1 HL5.out.2.2.2) (by rw [leastL_len, ← HKS.out]; omega)).mono ?_; rintro e w6 ⟨rfl, b6⟩; have HB6 := mkHid b6; clear b6))
              go_ret
              exact ⟨rfl, HB3.out.trans ((HL4.out.2.2.2.mono HB3.out.size).trans ((HL5.out.2.2.2.mono (Nat.le_trans HB3.out.size HL4.out.2.2.2.size)).trans (HB6.out.mono (Nat.le_trans HB3.out.size (Nat.le_trans HL4.out.2.2.2.size HL5.out.2.2.2.size)))))⟩
end Go.Proofs.YtjlmkmhggkcbhaaDoor
