/- The law OrderAdds. -/
import Derived.Test.YtehnimafjgodeaaDoorOadds1
namespace Go.Proofs.YtehnimafjgodeaaDoor
open Go.ChangeMaps Go.ChangeShapes Go.WideShapes Go.ChangeAt Go.RowKit
set_option maxRecDepth 100000
attribute [local go_sem] World.cell?_alloc_some frozen_alloc_some

set_option maxHeartbeats 51200000 in
theorem adds_any (w : World) (v : Value) (ps : List Ep) (ef : Addr) (hE : w.cell? ⟨8, 0, none⟩ = some (vErr ef)) (h : Ens w v ps) (hs : ∀ t ∈ ps, small t ∧ In64 t.1.cl ∧ In64 t.1.nu) :
    Calls Tryd.prog 8 #[v] w fun r w' => r = .returned (.bool true) ∧ Below w.heap.size w w' := by
  obtain ⟨a0, cap0, rfl, hl0, _⟩ := id h
  have HL := mkHid h
  have HS := mkHid hs
  have HER := mkHid hE
  have hmm := @run_makeMap Tryd.prog
  clear h hs hE
  go_enter Tryd.func8, Tryd.ntmps8
  go_wp2_with (go_at_call 9; refine (alive_any _).mono ?_; rintro r w1 ⟨rfl, b1⟩; have HB1 := mkHid b1; clear b1)
  clear hmm
  obtain ⟨pb, hpb⟩ : ∃ pb, pb = w1.heap.size + 1 := ⟨_, rfl⟩
  obtain ⟨lb, hlb⟩ : ∃ lb, lb = pb + 1 := ⟨_, rfl⟩
  have HNE : Hid (lb ≠ pb ∧ w.heap.size ≤ pb ∧ w.heap.size ≤ lb ∧ pb < w1.heap.size + 3 ∧ lb < w1.heap.size + 3) := mkHid ⟨by omega, by have := HB1.out.size; omega, by have := HB1.out.size; omega, by omega, by omega⟩
  have HST : Hid (AS w (((w1.alloc (.cells #[] 28)).alloc (.map #[] 0)).alloc (.map #[] 0)) pb lb (.slice (some ⟨w1.heap.size, 0, none⟩) 0 0) [] (fun _ => none) ∧ w1.heap.size + 3 ≤ (((w1.alloc (.cells #[] 28)).alloc (.map #[] 0)).alloc (.map #[] 0)).heap.size) := mkHid (by
    refine ⟨⟨bt HB1.out (ba (ba (ba (Below.refl _ w1) _) _) _), ens_zero _ _ _, fun t ht => by simp at ht, by simp, ⟨#[], 0, ?_, fun e he => by simp at he, by simp, ⟨fun e he => by simp at he, by simp⟩, fun k => by simp [lookP]⟩, ⟨#[], 0, ?_, fun e he => by simp at he, by simp, ⟨fun e he => by simp at he, by simp⟩, fun k => by simp [look, lastOf]⟩, rel_nil⟩, by simp⟩
    · rw [hpb, heap_alloc_old _ _ (by simp)]
      have := heap_alloc_new (w1.alloc (.cells #[] 28)) (.map #[] 0)
      simpa using this
    · rw [hlb, hpb]
      have := heap_alloc_new ((w1.alloc (.cells #[] 28)).alloc (.map #[] 0)) (.map #[] 0)
      simpa using this)
  rw [← hpb, ← hlb]
  generalize ((w1.alloc (.cells #[] 28)).alloc (.map #[] 0)).alloc (.map #[] 0) = ws at *
  obtain ⟨sz, hsz0⟩ : ∃ sz, sz = w1.heap.size + 3 := ⟨_, rfl⟩
  rw [← hsz0] at HNE HST
  clear hpb hlb hsz0
  go_loopw [3, 30] (fun lv iv wr => ∃ (j : Nat) (rs : List Ep) (mp : Pr → Option Int), iv = .int .i64 (j : Int) ∧ j ≤ ps.length ∧ (∃ la lc, lv = .slice la rs.length lc ∧ rs.length ≤ lc) ∧ Hid (AS w wr pb lb lv rs mp ∧ sz ≤ wr.heap.size)) (fun _ iv _ => ps.length - (intOf iv).toNat)
  case atStart => exact ⟨0, [], _, rfl, Nat.zero_le _, ⟨_, _, rfl, by simp⟩, HST⟩
  case round =>
    clear HST
    obtain ⟨j, rs, mp, rfl, hj, ⟨la, lc, rfl, hlc⟩, HI⟩ := hrel
    have hr64 : (rs.length : Int) ≤ 64 := by have := HI.out.1.le; omega
    by_cases hlt : j < ps.length
    case neg =>
      obtain rfl : j = ps.length := by omega
      have HAS := mkHid HI.out.1
      clear HI
      go_wp2_with (go_at_call 33; refine (last_any wr _ rs HAS.out.ens).mono ?_; rintro r w5 ⟨rfl, hm5, b5⟩; have HM5 : Hid (Mj w5 (wr.heap.size) (lastOf (fs1 rs))) := mkHid hm5; have HA5 := mkHid (HAS.out.below b5); obtain ⟨es1, ck1, hb1, hi1, hd1, _, hf1⟩ := HM5.out; obtain ⟨es2, ck2, hb2, hi2, hd2, hbn2, hf2⟩ := HA5.out.mjj; have hsz : es1.size = es2.size := (by simpa using keys_len hi1 hd1 hi2 hd2 (fun k => (hf1 k).trans (hf2 k).symm)); have hln1 := run_lenM _ es1 ck1 w5 hb1; have hln2 := run_lenM lb es2 ck2 w5 hb2; rw [hsz] at hln1; have hrg := run_range_map (P := Tryd.prog) w5 65 3 3 lb es2 ck2 Tryd.underlying65 hb2; have HMP := mkHid (And.intro hi2 (And.intro hd2 (And.intro hbn2 hf2))); have HMB := mkHid hb2; clear hb1 hi1 hd1 hf1 hb2 hi2 hd2 hbn2 hf2 hsz b5 hm5)
      clear hln1 hln2 hrg
      obtain ⟨gb, hgb⟩ : ∃ gb, gb = wr.heap.size := ⟨_, rfl⟩
      rw [← hgb] at HM5 ⊢
      clear hgb
      obtain ⟨rb, hrb⟩ : ∃ rb, rb = w5.heap.size := ⟨_, rfl⟩
      have HI0 : Hid ((w5.alloc (.mapIter (some lb) ck2 #[] ck2)).heap[rb]? = some (.mapIter (some lb) ck2 #[] ck2)) := mkHid (by rw [hrb]; exact heap_alloc_new w5 _)
      have HB0 : Hid ((w5.alloc (.mapIter (some lb) ck2 #[] ck2)).heap[lb]? = some (.map es2 ck2)) := mkHid (by rw [heap_alloc_old w5 _ (lt_of_heap HMB.out)]; exact HMB.out)
      have HC0 : Hid (Below w5.heap.size w5 (w5.alloc (.mapIter (some lb) ck2 #[] ck2))) := mkHid (ba (Below.refl _ _) _)
      have HRB : Hid (w5.heap.size ≤ rb ∧ lb ≠ rb) := mkHid ⟨by omega, by have := lt_of_heap HMB.out; omega⟩
      rw [← hrb]
      generalize w5.alloc (.mapIter (some lb) ck2 #[] ck2) = wi at *
      clear hrb HMB
      go_loopw [17] (fun _ wr => ∃ seen, Hid (wr.heap[rb]? = some (.mapIter (some lb) ck2 seen ck2) ∧ wr.heap[lb]? = some (.map es2 ck2) ∧ Below w5.heap.size w5 wr)) (fun _ wr => (leftOf es2 (wr.iterSeen rb)).size)
      case atStart => exact ⟨#[], mkHid ⟨HI0.out, HB0.out, HC0.out⟩⟩
      case round =>
        clear HI0 HB0 HC0
        obtain ⟨seen, HH⟩ := hrel
        rcases map_step HH.out.1 HH.out.2.1 HMP.out.1 HMP.out.2.1 HMP.out.2.2.1 HMP.out.2.2.2 HH.out.2.2 HRB.out.1 HRB.out.2 with hnx | ⟨c, n, w6, seen', hmc, hnx, hen, hr6, hb6, hB6, hsm⟩
        case inr =>
          have hlk := (HM5.out.below hB6).get1 c
          rw [hmc] at hlk
          simp only [Option.getD_some] at hlk
          have HR6 := mkHid (And.intro hr6 (And.intro hb6 hB6))
          have HSM := mkHid hsm
          clear hmc hr6 hb6 hB6 hsm
          go_wp2
          go_roundw
          case rel => exact ⟨seen', HR6⟩
          case measure => exact HSM.out
        have HA6 := mkHid (HA5.out.below HH.out.2.2)
        obtain ⟨es3, ck3, hb3, hi3, hd3, hbn3, hf3⟩ := HA6.out.mpp
        have hrg := run_range_map (P := Tryd.prog) wr 70 71 3 pb es3 ck3 Tryd.underlying70 hb3
        have HMP3 := mkHid (And.intro hi3 (And.intro hd3 (And.intro hbn3 hf3)))
        have HMB := mkHid hb3
        clear HH hb3 hi3 hd3 hbn3 hf3
        go_wp2
        clear hrg hnx
        obtain ⟨rc, hrc⟩ : ∃ rc, rc = wr.heap.size := ⟨_, rfl⟩
        have HI0 : Hid ((wr.alloc (.mapIter (some pb) ck3 #[] ck3)).heap[rc]? = some (.mapIter (some pb) ck3 #[] ck3)) := mkHid (by rw [hrc]; exact heap_alloc_new wr _)
        have HB0 : Hid ((wr.alloc (.mapIter (some pb) ck3 #[] ck3)).heap[pb]? = some (.map es3 ck3)) := mkHid (by rw [heap_alloc_old wr _ (lt_of_heap HMB.out)]; exact HMB.out)
        obtain ⟨wv, hwv⟩ : ∃ wv, wv = wr := ⟨_, rfl⟩
        have HC0 : Hid (Below wv.heap.size wv (wr.alloc (.mapIter (some pb) ck3 #[] ck3))) := mkHid (by rw [hwv]; exact ba (Below.refl _ _) _)
        have HRC : Hid (wv.heap.size ≤ rc ∧ pb ≠ rc) := mkHid ⟨by rw [hwv]; omega, by have := lt_of_heap HMB.out; omega⟩
        rw [← hwv] at HA6
        rw [← hrc]
        generalize wr.alloc (.mapIter (some pb) ck3 #[] ck3) = wj at *
        clear hrc HMB hwv
        go_loopw [20] (fun _ wr => ∃ seen, Hid (wr.heap[rc]? = some (.mapIter (some pb) ck3 seen ck3) ∧ wr.heap[pb]? = some (.map es3 ck3) ∧ Below wv.heap.size wv wr)) (fun _ wr => (leftOf es3 (wr.iterSeen rc)).size)
        case atStart => exact ⟨#[], mkHid ⟨HI0.out, HB0.out, HC0.out⟩⟩
        case round =>
          clear HI0 HB0 HC0
          obtain ⟨seen, HH⟩ := hrel
          rcases mapP_step HH.out.1 HH.out.2.1 HMP3.out.1 HMP3.out.2.1 HMP3.out.2.2.1 HMP3.out.2.2.2 HH.out.2.2 HRC.out.1 HRC.out.2 with hnx | ⟨⟨kc1, kn1⟩, n, w6, seen', hmc, hnx, hen, hr6, hb6, hB6, hsm⟩
          case inr =>
            obtain ⟨pk, hpk⟩ := plis_ex (fs1 rs) kc1 kn1
            have hrl := HA6.out.rel _ _ _ hpk
            rw [hmc] at hrl
            obtain ⟨pj, rfl, rfl⟩ : ∃ pj : Nat, pk = pj + 1 ∧ n = (pj : Int) + 1 := by
              by_cases h0 : pk = 0
              · simp [h0] at hrl
              · simp [h0] at hrl; exact ⟨pk - 1, by omega, by omega⟩
            have HPK := mkHid hpk
            have HR6 := mkHid (And.intro hr6 (And.intro hb6 hB6))
            have HSM := mkHid hsm
            have HEN := mkHid (HA6.out.ens.below (bt hB6 (ba (Below.refl _ w6) (.cells #[.int .i64 kc1, .int .i64 kn1] 71))))
            clear hmc hr6 hb6 hB6 hsm hpk hrl
            simp only [vK] at hnx hen
            go_wp2_with (go_at_call 29; refine (Place_yes _ _ rs kc1 kn1 pj HEN.out (by have := HA6.out.le; omega) HPK.out).mono ?_; rintro r w7 ⟨rfl, b7⟩; have hb7 := bt (ba (Below.refl _ w6) (.cells #[.int .i64 kc1, .int .i64 kn1] 71)) b7; have HR7 : Hid (w7.heap[rc]? = some (.mapIter (some pb) ck3 seen' ck3) ∧ w7.heap[pb]? = some (.map es3 ck3) ∧ Below wv.heap.size wv w7) := mkHid ⟨(hb7.block rc (lt_of_heap HR6.out.1)).trans HR6.out.1, (hb7.block pb (lt_of_heap HR6.out.2.1)).trans HR6.out.2.1, bt HR6.out.2.2 hb7⟩; clear b7 hb7)
            go_roundw
            case rel => exact ⟨seen', HR7⟩
            case measure => have h5 := iter_of HR7.out.1; have h4 := iter_of HR6.out.1; rw [h5, ← h4]; exact HSM.out
          have HBF := mkHid (bt HA6.out.bel HH.out.2.2)
          clear HH
          go_wp2
          go_ret
          exact ⟨rfl, HBF.out⟩
    obtain ⟨b1, o1, ⟨y, ya, yc⟩, rfl, hxj, hat, hyw⟩ := HL.out.at HI.out.1.bel j hlt
    obtain ⟨q0, q1, q2, q3, q4, q5, q6, q7, q8, q9⟩ := hat.ten
    simp only [tv] at q0 q1 q2 q3 q4 q5 q6 q7 q8 q9
    have hji : (j : Int) < ps.length := by omega
    have HYW := mkHid hyw
    have HSM : Hid (small (y, ya, yc) ∧ I2 (y.cl, y.nu)) := mkHid (HS.out _ (List.mem_of_getElem? hxj))
    have HAS1 := mkHid (HI.out.1.below (ba (Below.refl _ wr) (oE y (.slice ya y.ts.length yc))))
    have HNE' : Hid (pb < wr.heap.size) := mkHid (by have := HNE.out; have := HI.out.2; omega)
    clear hxj hat hyw
    by_cases h100 : (j : Int) ≤ 100
    case neg =>
      have h101 : (100 : Int) < j := by omega
      have HAS := HAS1
      clear HI HAS1 h100
      go_wp2_with (go_at_call 33; refine (last_any (wr.alloc (oE y (.slice ya y.ts.length yc))) _ rs HAS.out.ens).mono ?_; rintro r w5 ⟨rfl, hm5, b5⟩; have HM5 : Hid (Mj w5 (wr.heap.size + 1) (lastOf (fs1 rs))) := mkHid (by simpa using hm5); have HA5 := mkHid (HAS.out.below b5); obtain ⟨es1, ck1, hb1, hi1, hd1, _, hf1⟩ := HM5.out; obtain ⟨es2, ck2, hb2, hi2, hd2, hbn2, hf2⟩ := HA5.out.mjj; have hsz : es1.size = es2.size := (by simpa using keys_len hi1 hd1 hi2 hd2 (fun k => (hf1 k).trans (hf2 k).symm)); have hln1 := run_lenM _ es1 ck1 w5 hb1; have hln2 := run_lenM lb es2 ck2 w5 hb2; rw [hsz] at hln1; have hrg := run_range_map (P := Tryd.prog) w5 65 3 3 lb es2 ck2 Tryd.underlying65 hb2; have HMP := mkHid (And.intro hi2 (And.intro hd2 (And.intro hbn2 hf2))); have HMB := mkHid hb2; clear hb1 hi1 hd1 hf1 hb2 hi2 hd2 hbn2 hf2 hsz b5 hm5)
      clear hln1 hln2 hrg
      obtain ⟨gb, hgb⟩ : ∃ gb, gb = wr.heap.size + 1 := ⟨_, rfl⟩
      rw [← hgb] at HM5 ⊢
      clear hgb
      obtain ⟨rb, hrb⟩ : ∃ rb, rb = w5.heap.size := ⟨_, rfl⟩
      have HI0 : Hid ((w5.alloc (.mapIter (some lb) ck2 #[] ck2)).heap[rb]? = some (.mapIter (some lb) ck2 #[] ck2)) := mkHid (by rw [hrb]; exact heap_alloc_new w5 _)
      have HB0 : Hid ((w5.alloc (.mapIter (some lb) ck2 #[] ck2)).heap[lb]? = some (.map es2 ck2)) := mkHid (by rw [heap_alloc_old w5 _ (lt_of_heap HMB.out)]; exact HMB.out)
      have HC0 : Hid (Below w5.heap.size w5 (w5.alloc (.mapIter (some lb) ck2 #[] ck2))) := mkHid (ba (Below.refl _ _) _)
      have HRB : Hid (w5.heap.size ≤ rb ∧ lb ≠ rb) := mkHid ⟨by omega, by have := lt_of_heap HMB.out; omega⟩
      rw [← hrb]
      generalize w5.alloc (.mapIter (some lb) ck2 #[] ck2) = wi at *
      clear hrb HMB
      go_loopw [17] (fun _ wr => ∃ seen, Hid (wr.heap[rb]? = some (.mapIter (some lb) ck2 seen ck2) ∧ wr.heap[lb]? = some (.map es2 ck2) ∧ Below w5.heap.size w5 wr)) (fun _ wr => (leftOf es2 (wr.iterSeen rb)).size)
      case atStart => exact ⟨#[], mkHid ⟨HI0.out, HB0.out, HC0.out⟩⟩
      case round =>
        clear HI0 HB0 HC0
        obtain ⟨seen, HH⟩ := hrel
        rcases map_step HH.out.1 HH.out.2.1 HMP.out.1 HMP.out.2.1 HMP.out.2.2.1 HMP.out.2.2.2 HH.out.2.2 HRB.out.1 HRB.out.2 with hnx | ⟨c, n, w6, seen', hmc, hnx, hen, hr6, hb6, hB6, hsm⟩
        case inr =>
          have hlk := (HM5.out.below hB6).get1 c
          rw [hmc] at hlk
          simp only [Option.getD_some] at hlk
          have HR6 := mkHid (And.intro hr6 (And.intro hb6 hB6))
          have HSM := mkHid hsm
          clear hmc hr6 hb6 hB6 hsm
          go_wp2
          go_roundw
          case rel => exact ⟨seen', HR6⟩
          case measure => exact HSM.out
        have HA6 := mkHid (HA5.out.below HH.out.2.2)
        obtain ⟨es3, ck3, hb3, hi3, hd3, hbn3, hf3⟩ := HA6.out.mpp
        have hrg := run_range_map (P := Tryd.prog) wr 70 71 3 pb es3 ck3 Tryd.underlying70 hb3
        have HMP3 := mkHid (And.intro hi3 (And.intro hd3 (And.intro hbn3 hf3)))
        have HMB := mkHid hb3
        clear HH hb3 hi3 hd3 hbn3 hf3
        go_wp2
        clear hrg hnx
        obtain ⟨rc, hrc⟩ : ∃ rc, rc = wr.heap.size := ⟨_, rfl⟩
        have HI0 : Hid ((wr.alloc (.mapIter (some pb) ck3 #[] ck3)).heap[rc]? = some (.mapIter (some pb) ck3 #[] ck3)) := mkHid (by rw [hrc]; exact heap_alloc_new wr _)
        have HB0 : Hid ((wr.alloc (.mapIter (some pb) ck3 #[] ck3)).heap[pb]? = some (.map es3 ck3)) := mkHid (by rw [heap_alloc_old wr _ (lt_of_heap HMB.out)]; exact HMB.out)
        obtain ⟨wv, hwv⟩ : ∃ wv, wv = wr := ⟨_, rfl⟩
        have HC0 : Hid (Below wv.heap.size wv (wr.alloc (.mapIter (some pb) ck3 #[] ck3))) := mkHid (by rw [hwv]; exact ba (Below.refl _ _) _)
        have HRC : Hid (wv.heap.size ≤ rc ∧ pb ≠ rc) := mkHid ⟨by rw [hwv]; omega, by have := lt_of_heap HMB.out; omega⟩
        rw [← hwv] at HA6
        rw [← hrc]
        generalize wr.alloc (.mapIter (some pb) ck3 #[] ck3) = wj at *
        clear hrc HMB hwv
        go_loopw [20] (fun _ wr => ∃ seen, Hid (wr.heap[rc]? = some (.mapIter (some pb) ck3 seen ck3) ∧ wr.heap[pb]? = some (.map es3 ck3) ∧ Below wv.heap.size wv wr)) (fun _ wr => (leftOf es3 (wr.iterSeen rc)).size)
        case atStart => exact ⟨#[], mkHid ⟨HI0.out, HB0.out, HC0.out⟩⟩
        case round =>
          clear HI0 HB0 HC0
          obtain ⟨seen, HH⟩ := hrel
          rcases mapP_step HH.out.1 HH.out.2.1 HMP3.out.1 HMP3.out.2.1 HMP3.out.2.2.1 HMP3.out.2.2.2 HH.out.2.2 HRC.out.1 HRC.out.2 with hnx | ⟨⟨kc1, kn1⟩, n, w6, seen', hmc, hnx, hen, hr6, hb6, hB6, hsm⟩
          case inr =>
            obtain ⟨pk, hpk⟩ := plis_ex (fs1 rs) kc1 kn1
            have hrl := HA6.out.rel _ _ _ hpk
            rw [hmc] at hrl
            obtain ⟨pj, rfl, rfl⟩ : ∃ pj : Nat, pk = pj + 1 ∧ n = (pj : Int) + 1 := by
              by_cases h0 : pk = 0
              · simp [h0] at hrl
              · simp [h0] at hrl; exact ⟨pk - 1, by omega, by omega⟩
            have HPK := mkHid hpk
            have HR6 := mkHid (And.intro hr6 (And.intro hb6 hB6))
            have HSM := mkHid hsm
            have HEN := mkHid (HA6.out.ens.below (bt hB6 (ba (Below.refl _ w6) (.cells #[.int .i64 kc1, .int .i64 kn1] 71))))
            clear hmc hr6 hb6 hB6 hsm hpk hrl
            simp only [vK] at hnx hen
            go_wp2_with (go_at_call 29; refine (Place_yes _ _ rs kc1 kn1 pj HEN.out (by have := HA6.out.le; omega) HPK.out).mono ?_; rintro r w7 ⟨rfl, b7⟩; have hb7 := bt (ba (Below.refl _ w6) (.cells #[.int .i64 kc1, .int .i64 kn1] 71)) b7; have HR7 : Hid (w7.heap[rc]? = some (.mapIter (some pb) ck3 seen' ck3) ∧ w7.heap[pb]? = some (.map es3 ck3) ∧ Below wv.heap.size wv w7) := mkHid ⟨(hb7.block rc (lt_of_heap HR6.out.1)).trans HR6.out.1, (hb7.block pb (lt_of_heap HR6.out.2.1)).trans HR6.out.2.1, bt HR6.out.2.2 hb7⟩; clear b7 hb7)
            go_roundw
            case rel => exact ⟨seen', HR7⟩
            case measure => have h5 := iter_of HR7.out.1; have h4 := iter_of HR6.out.1; rw [h5, ← h4]; exact HSM.out
          have HBF := mkHid (bt HA6.out.bel HH.out.2.2)
          clear HH
          go_wp2
          go_ret
          exact ⟨rfl, HBF.out⟩
    obtain ⟨pk0, hpk⟩ := plis_ex (fs1 rs) y.cl y.nu
    have hrl := HAS1.out.rel _ _ _ hpk
    by_cases hpk0 : pk0 = 0
    · subst hpk0
      simp only [if_true] at hrl
      have HPK := mkHid hpk
      have HRL := mkHid hrl
      clear hpk hrl
      by_cases h64 : rs.length < 64
      · have h64' : (rs.length : Int) < 64 := by omega
        have HNX : Hid (sz ≤ wr.heap.size) := mkHid HI.out.2
        clear HI
        cases hls : lastOf (fs1 rs) y.cl with
        | none =>
          have HLS := mkHid hls
          clear hls
          go_wp2_with (first
            | (go_at_call 27; refine (add_new _ _ rs (y, ya, yc) (HAS1.out.ens) HAS1.out.sm (EnW.below HYW.out (ba (Below.refl _ wr) _)) HSM.out.1 HPK.out h64).mono ?_; rintro r w2 ⟨v2, qs, rfl, hl2, hq2, b2⟩; obtain ⟨qa, qc, rfl, hqc⟩ := own_sh hl2.own; have HQF : Hid (fs1 qs = fs1 rs ++ [y]) := mkHid hq2; have HQL : Hid (qs.length = rs.length + 1) := mkHid (by have e := congrArg List.length hq2; simpa using e); have HQS : Hid (∀ t ∈ qs, small t) := mkHid (fs_smalls (ps := rs ++ [(y, ya, yc)]) (by rw [hq2]; simp) (fun u hu => by rcases List.mem_append.mp hu with m | m; exact HAS1.out.sm u m; simp at m; subst m; exact HSM.out.1)); have HAS2 := mkHid (HAS1.out.below b2); have HQE : Hid (Ens w2 (.slice qa qs.length qc) qs) := mkHid (hl2.ens (by have := HQL.out; have := HAS1.out.le; omega) (fun t ht => by have := HQS.out t ht; unfold small at this; omega)); have HAM : Hid (AM w (w2.alloc (.cells #[.int .i64 y.cl, .int .i64 y.nu] 71)) pb lb (.slice qa qs.length qc) qs mp (lastOf (fs1 rs))) := mkHid (AM.below ⟨HAS2.out.bel, HQE.out, HAS2.out.mpp, HAS2.out.mjj⟩ (ba (Below.refl _ w2) _)); have hx2 := (b2.block wr.heap.size (by simp)).trans (entO wr y (.slice ya y.ts.length yc)); obtain ⟨q0, q1, q2, q3, q4, q5, q6, q7, q8, q9⟩ := ent_cells hx2; have HX2 := mkHid hx2; have hlp : (Instr.lookup 70 (.map (some pb)) (vK (y.cl, y.nu)) true).run Tryd.prog (w2.alloc (.cells #[.int .i64 y.cl, .int .i64 y.nu] 71)) = .ok (.tuple #[.int .i64 0, .bool false]) (w2.alloc (.cells #[.int .i64 y.cl, .int .i64 y.nu] 71)) := (by have := HAM.out.mpp.get (y.cl, y.nu) HSM.out.2; rw [HRL.out] at this; simpa using this); have hqi : (qs.length : Int) = (rs.length : Int) + 1 := (by have := HQL.out; omega); have HZ2 : Hid (wr.heap.size ≤ w2.heap.size) := mkHid (by have := b2.size; simp at this; omega); clear hl2 hq2 b2 hx2)
            | (go_at_call 31; refine (begins_any (w2.alloc (.cells #[.int .i64 y.cl, .int .i64 y.nu] 71)) _ qa qc rs qs (HAS2.out.ens.below (ba (Below.refl _ w2) _)) HAM.out.ens hqc true (by simp only [true_iff]; exact ⟨by rw [HQL.out]; omega, by rw [fs_take, HQF.out, List.take_left' (by simp)]⟩)).mono ?_; rintro r w4 ⟨rfl, b4⟩; have HAM4 := mkHid (HAM.out.below b4); have hx4 := (b4.block wr.heap.size (by have := lt_of_heap HX2.out; simp; omega)).trans ((heap_alloc_old w2 _ (lt_of_heap HX2.out)).trans HX2.out); have hk4 := (b4.block w2.heap.size (by simp)).trans (heap_alloc_new w2 (.cells #[.int .i64 y.cl, .int .i64 y.nu] 71)); clear q0 q1 q2 q3 q4 q5 q6 q7 q8 q9 hlp; obtain ⟨q0, q1, q2, q3, q4, q5, q6, q7, q8, q9⟩ := ent_cells hx4; have kq0 : w4.cell? ⟨w2.heap.size, 0, none⟩ = some (.int .i64 y.cl) := cell_of_block hk4 rfl; have kq1 : w4.cell? ⟨w2.heap.size, 1, none⟩ = some (.int .i64 y.nu) := cell_of_block hk4 rfl; obtain ⟨wu, hput, hAu, hKu⟩ := HAM4.out.putP HNE.out.1 HNE.out.2.1 (y.cl, y.nu) HSM.out.2 ((rs.length : Int) + 1); simp only [vK] at hput; have HAU := mkHid hAu; have hxu := (hKu.block wr.heap.size (lt_of_heap hx4) (by have := HNE.out.2.2.2; have := HNX.out; omega)).trans hx4; obtain ⟨z0, z1, z2, z3, z4, z5, z6, z7, z8, z9⟩ := ent_cells hxu; have hlj := hAu.mjj.get y.cl; obtain ⟨wz, hpj, hAz, hzs⟩ := hAu.putJ HNE.out.1 HNE.out.2.2.1 y.cl y.nu; have HAZ := mkHid hAz; have HAUS : Hid (sz ≤ wu.heap.size) := mkHid (by have h1 := HNX.out; have h2 := HZ2.out; have h3 := b4.size; have h4 := hKu.size; simp at h3; omega); have HAZS : Hid (sz ≤ wz.heap.size) := mkHid (Nat.le_trans HAUS.out hzs); clear hx4 hk4 b4 hAu hKu hxu hAz hzs; rw [HLS.out] at hlj; simp only [Option.getD_none, Option.isSome_none] at hlj))
          go_roundw
          case rel => exact ⟨j + 1, qs, (upP mp (y.cl, y.nu) ((rs.length : Int) + 1)), by go_num, by omega, ⟨qa, qc, rfl, hqc⟩, mkHid ⟨⟨HAZ.out.bel, HAZ.out.ens, HQS.out, by have := HQL.out; have := HAS1.out.le; omega, HAZ.out.mpp, by rw [HQF.out, lastOf_snoc]; unfold lastF; rw [HLS.out]; exact HAZ.out.mjj, by rw [HQF.out]; have := rel_new HAS1.out.rel HPK.out; rw [fs_lenA] at this; exact this⟩, HAZS.out⟩⟩
          case measure => simp [intOf]; omega
        | some n =>
          have HLS := mkHid hls
          clear hls
          by_cases hln : n < y.nu
          · have HLN := mkHid hln
            go_wp2_with (first
              | (go_at_call 27; refine (add_new _ _ rs (y, ya, yc) (HAS1.out.ens) HAS1.out.sm (EnW.below HYW.out (ba (Below.refl _ wr) _)) HSM.out.1 HPK.out h64).mono ?_; rintro r w2 ⟨v2, qs, rfl, hl2, hq2, b2⟩; obtain ⟨qa, qc, rfl, hqc⟩ := own_sh hl2.own; have HQF : Hid (fs1 qs = fs1 rs ++ [y]) := mkHid hq2; have HQL : Hid (qs.length = rs.length + 1) := mkHid (by have e := congrArg List.length hq2; simpa using e); have HQS : Hid (∀ t ∈ qs, small t) := mkHid (fs_smalls (ps := rs ++ [(y, ya, yc)]) (by rw [hq2]; simp) (fun u hu => by rcases List.mem_append.mp hu with m | m; exact HAS1.out.sm u m; simp at m; subst m; exact HSM.out.1)); have HAS2 := mkHid (HAS1.out.below b2); have HQE : Hid (Ens w2 (.slice qa qs.length qc) qs) := mkHid (hl2.ens (by have := HQL.out; have := HAS1.out.le; omega) (fun t ht => by have := HQS.out t ht; unfold small at this; omega)); have HAM : Hid (AM w (w2.alloc (.cells #[.int .i64 y.cl, .int .i64 y.nu] 71)) pb lb (.slice qa qs.length qc) qs mp (lastOf (fs1 rs))) := mkHid (AM.below ⟨HAS2.out.bel, HQE.out, HAS2.out.mpp, HAS2.out.mjj⟩ (ba (Below.refl _ w2) _)); have hx2 := (b2.block wr.heap.size (by simp)).trans (entO wr y (.slice ya y.ts.length yc)); obtain ⟨q0, q1, q2, q3, q4, q5, q6, q7, q8, q9⟩ := ent_cells hx2; have HX2 := mkHid hx2; have hlp : (Instr.lookup 70 (.map (some pb)) (vK (y.cl, y.nu)) true).run Tryd.prog (w2.alloc (.cells #[.int .i64 y.cl, .int .i64 y.nu] 71)) = .ok (.tuple #[.int .i64 0, .bool false]) (w2.alloc (.cells #[.int .i64 y.cl, .int .i64 y.nu] 71)) := (by have := HAM.out.mpp.get (y.cl, y.nu) HSM.out.2; rw [HRL.out] at this; simpa using this); have hqi : (qs.length : Int) = (rs.length : Int) + 1 := (by have := HQL.out; omega); have HZ2 : Hid (wr.heap.size ≤ w2.heap.size) := mkHid (by have := b2.size; simp at this; omega); clear hl2 hq2 b2 hx2)
              | (go_at_call 31; refine (begins_any (w2.alloc (.cells #[.int .i64 y.cl, .int .i64 y.nu] 71)) _ qa qc rs qs (HAS2.out.ens.below (ba (Below.refl _ w2) _)) HAM.out.ens hqc true (by simp only [true_iff]; exact ⟨by rw [HQL.out]; omega, by rw [fs_take, HQF.out, List.take_left' (by simp)]⟩)).mono ?_; rintro r w4 ⟨rfl, b4⟩; have HAM4 := mkHid (HAM.out.below b4); have hx4 := (b4.block wr.heap.size (by have := lt_of_heap HX2.out; simp; omega)).trans ((heap_alloc_old w2 _ (lt_of_heap HX2.out)).trans HX2.out); have hk4 := (b4.block w2.heap.size (by simp)).trans (heap_alloc_new w2 (.cells #[.int .i64 y.cl, .int .i64 y.nu] 71)); clear q0 q1 q2 q3 q4 q5 q6 q7 q8 q9 hlp; obtain ⟨q0, q1, q2, q3, q4, q5, q6, q7, q8, q9⟩ := ent_cells hx4; have kq0 : w4.cell? ⟨w2.heap.size, 0, none⟩ = some (.int .i64 y.cl) := cell_of_block hk4 rfl; have kq1 : w4.cell? ⟨w2.heap.size, 1, none⟩ = some (.int .i64 y.nu) := cell_of_block hk4 rfl; obtain ⟨wu, hput, hAu, hKu⟩ := HAM4.out.putP HNE.out.1 HNE.out.2.1 (y.cl, y.nu) HSM.out.2 ((rs.length : Int) + 1); simp only [vK] at hput; have HAU := mkHid hAu; have hxu := (hKu.block wr.heap.size (lt_of_heap hx4) (by have := HNE.out.2.2.2; have := HNX.out; omega)).trans hx4; obtain ⟨z0, z1, z2, z3, z4, z5, z6, z7, z8, z9⟩ := ent_cells hxu; have hlj := hAu.mjj.get y.cl; obtain ⟨wz, hpj, hAz, hzs⟩ := hAu.putJ HNE.out.1 HNE.out.2.2.1 y.cl y.nu; have HAZ := mkHid hAz; have HAUS : Hid (sz ≤ wu.heap.size) := mkHid (by have h1 := HNX.out; have h2 := HZ2.out; have h3 := b4.size; have h4 := hKu.size; simp at h3; omega); have HAZS : Hid (sz ≤ wz.heap.size) := mkHid (Nat.le_trans HAUS.out hzs); clear hx4 hk4 b4 hAu hKu hxu hAz hzs; rw [HLS.out] at hlj; simp only [Option.getD_some, Option.isSome_some] at hlj))
            go_roundw
            case rel => exact ⟨j + 1, qs, (upP mp (y.cl, y.nu) ((rs.length : Int) + 1)), by go_num, by omega, ⟨qa, qc, rfl, hqc⟩, mkHid ⟨⟨HAZ.out.bel, HAZ.out.ens, HQS.out, by have := HQL.out; have := HAS1.out.le; omega, HAZ.out.mpp, by rw [HQF.out, lastOf_snoc]; unfold lastF; rw [HLS.out]; simp only [HLN.out, if_true]; exact HAZ.out.mjj, by rw [HQF.out]; have := rel_new HAS1.out.rel HPK.out; rw [fs_lenA] at this; exact this⟩, HAZS.out⟩⟩
            case measure => simp [intOf]; omega
          · have HLN := mkHid hln
            go_wp2_with (first
              | (go_at_call 27; refine (add_new _ _ rs (y, ya, yc) (HAS1.out.ens) HAS1.out.sm (EnW.below HYW.out (ba (Below.refl _ wr) _)) HSM.out.1 HPK.out h64).mono ?_; rintro r w2 ⟨v2, qs, rfl, hl2, hq2, b2⟩; obtain ⟨qa, qc, rfl, hqc⟩ := own_sh hl2.own; have HQF : Hid (fs1 qs = fs1 rs ++ [y]) := mkHid hq2; have HQL : Hid (qs.length = rs.length + 1) := mkHid (by have e := congrArg List.length hq2; simpa using e); have HQS : Hid (∀ t ∈ qs, small t) := mkHid (fs_smalls (ps := rs ++ [(y, ya, yc)]) (by rw [hq2]; simp) (fun u hu => by rcases List.mem_append.mp hu with m | m; exact HAS1.out.sm u m; simp at m; subst m; exact HSM.out.1)); have HAS2 := mkHid (HAS1.out.below b2); have HQE : Hid (Ens w2 (.slice qa qs.length qc) qs) := mkHid (hl2.ens (by have := HQL.out; have := HAS1.out.le; omega) (fun t ht => by have := HQS.out t ht; unfold small at this; omega)); have HAM : Hid (AM w (w2.alloc (.cells #[.int .i64 y.cl, .int .i64 y.nu] 71)) pb lb (.slice qa qs.length qc) qs mp (lastOf (fs1 rs))) := mkHid (AM.below ⟨HAS2.out.bel, HQE.out, HAS2.out.mpp, HAS2.out.mjj⟩ (ba (Below.refl _ w2) _)); have hx2 := (b2.block wr.heap.size (by simp)).trans (entO wr y (.slice ya y.ts.length yc)); obtain ⟨q0, q1, q2, q3, q4, q5, q6, q7, q8, q9⟩ := ent_cells hx2; have HX2 := mkHid hx2; have hlp : (Instr.lookup 70 (.map (some pb)) (vK (y.cl, y.nu)) true).run Tryd.prog (w2.alloc (.cells #[.int .i64 y.cl, .int .i64 y.nu] 71)) = .ok (.tuple #[.int .i64 0, .bool false]) (w2.alloc (.cells #[.int .i64 y.cl, .int .i64 y.nu] 71)) := (by have := HAM.out.mpp.get (y.cl, y.nu) HSM.out.2; rw [HRL.out] at this; simpa using this); have hqi : (qs.length : Int) = (rs.length : Int) + 1 := (by have := HQL.out; omega); have HZ2 : Hid (wr.heap.size ≤ w2.heap.size) := mkHid (by have := b2.size; simp at this; omega); clear hl2 hq2 b2 hx2)
              | (go_at_call 31; refine (begins_any (w2.alloc (.cells #[.int .i64 y.cl, .int .i64 y.nu] 71)) _ qa qc rs qs (HAS2.out.ens.below (ba (Below.refl _ w2) _)) HAM.out.ens hqc true (by simp only [true_iff]; exact ⟨by rw [HQL.out]; omega, by rw [fs_take, HQF.out, List.take_left' (by simp)]⟩)).mono ?_; rintro r w4 ⟨rfl, b4⟩; have HAM4 := mkHid (HAM.out.below b4); have hx4 := (b4.block wr.heap.size (by have := lt_of_heap HX2.out; simp; omega)).trans ((heap_alloc_old w2 _ (lt_of_heap HX2.out)).trans HX2.out); have hk4 := (b4.block w2.heap.size (by simp)).trans (heap_alloc_new w2 (.cells #[.int .i64 y.cl, .int .i64 y.nu] 71)); clear q0 q1 q2 q3 q4 q5 q6 q7 q8 q9 hlp; obtain ⟨q0, q1, q2, q3, q4, q5, q6, q7, q8, q9⟩ := ent_cells hx4; have kq0 : w4.cell? ⟨w2.heap.size, 0, none⟩ = some (.int .i64 y.cl) := cell_of_block hk4 rfl; have kq1 : w4.cell? ⟨w2.heap.size, 1, none⟩ = some (.int .i64 y.nu) := cell_of_block hk4 rfl; obtain ⟨wu, hput, hAu, hKu⟩ := HAM4.out.putP HNE.out.1 HNE.out.2.1 (y.cl, y.nu) HSM.out.2 ((rs.length : Int) + 1); simp only [vK] at hput; have HAU := mkHid hAu; have hxu := (hKu.block wr.heap.size (lt_of_heap hx4) (by have := HNE.out.2.2.2; have := HNX.out; omega)).trans hx4; obtain ⟨z0, z1, z2, z3, z4, z5, z6, z7, z8, z9⟩ := ent_cells hxu; have hlj := hAu.mjj.get y.cl; obtain ⟨wz, hpj, hAz, hzs⟩ := hAu.putJ HNE.out.1 HNE.out.2.2.1 y.cl y.nu; have HAZ := mkHid hAz; have HAUS : Hid (sz ≤ wu.heap.size) := mkHid (by have h1 := HNX.out; have h2 := HZ2.out; have h3 := b4.size; have h4 := hKu.size; simp at h3; omega); have HAZS : Hid (sz ≤ wz.heap.size) := mkHid (Nat.le_trans HAUS.out hzs); clear hx4 hk4 b4 hAu hKu hxu hAz hzs; rw [HLS.out] at hlj; simp only [Option.getD_some, Option.isSome_some] at hlj; clear hpj))
            go_roundw
            case rel => exact ⟨j + 1, qs, (upP mp (y.cl, y.nu) ((rs.length : Int) + 1)), by go_num, by omega, ⟨qa, qc, rfl, hqc⟩, mkHid ⟨⟨HAU.out.bel, HAU.out.ens, HQS.out, by have := HQL.out; have := HAS1.out.le; omega, HAU.out.mpp, by rw [HQF.out, lastOf_snoc, lastF_ge HLS.out (by have := HLN.out; omega)]; exact HAU.out.mjj, by rw [HQF.out]; have := rel_new HAS1.out.rel HPK.out; rw [fs_lenA] at this; exact this⟩, HAUS.out⟩⟩
            case measure => simp [intOf]; omega
      · have h64' : (64 : Int) ≤ rs.length := by omega
        go_wp2_with (go_at_call 27; refine (add_full _ _ rs (y, ya, yc) ef HAS1.out.ens (by omega) HPK.out (by omega) (kc HER.out HAS1.out.bel)).mono ?_; rintro r w2 ⟨rfl, b2⟩; have HB2 := mkHid (bt HAS1.out.bel b2); clear b2)
        go_ret
        exact ⟨by first | rfl | simp | (simp; omega), HB2.out⟩
    · obtain ⟨pk, rfl⟩ : ∃ pk, pk0 = pk + 1 := ⟨pk0 - 1, by omega⟩
      simp only [Nat.add_one_ne_zero, if_false] at hrl
      obtain ⟨⟨n, hls, hln⟩, hlf⟩ := last_there hpk
      have hpl : (pk : Int) + 1 ≤ rs.length := by have := hpk.le; rw [fs_lenA] at this; omega
      have HPK := mkHid hpk
      have HRL := mkHid hrl
      have HLS := mkHid hls
      have HLN := mkHid hln
      clear hpk hrl hpk0 hls hlf
      have HNX : Hid (sz ≤ wr.heap.size) := mkHid HI.out.2
      clear HI
      go_wp2_with (first
        | (go_at_call 27; refine (add_there _ _ rs (y, ya, yc) pk (HAS1.out.ens) (by have := HAS1.out.le; omega) HAS1.out.sm HPK.out).mono ?_; rintro r w2 ⟨v2, qs, rfl, hl2, hq2, b2⟩; obtain ⟨qa, qc, rfl, hqc⟩ := own_sh hl2.own; have HQF : Hid (fs1 qs = fs1 rs) := mkHid hq2; have HQL : Hid (qs.length = rs.length) := mkHid (by have e := congrArg List.length hq2; simpa using e); have HQS : Hid (∀ t ∈ qs, small t) := mkHid (fs_smalls (ps := rs) (by rw [hq2]) HAS1.out.sm); have HAS2 := mkHid (HAS1.out.below b2); have HQE : Hid (Ens w2 (.slice qa qs.length qc) qs) := mkHid (hl2.ens (by have := HQL.out; have := HAS1.out.le; omega) (fun t ht => by have := HQS.out t ht; unfold small at this; omega)); have HAM : Hid (AM w (w2.alloc (.cells #[.int .i64 y.cl, .int .i64 y.nu] 71)) pb lb (.slice qa qs.length qc) qs mp (lastOf (fs1 rs))) := mkHid (AM.below ⟨HAS2.out.bel, HQE.out, HAS2.out.mpp, HAS2.out.mjj⟩ (ba (Below.refl _ w2) _)); have hx2 := (b2.block wr.heap.size (by simp)).trans (entO wr y (.slice ya y.ts.length yc)); obtain ⟨q0, q1, q2, q3, q4, q5, q6, q7, q8, q9⟩ := ent_cells hx2; have HX2 := mkHid hx2; have hlp : (Instr.lookup 70 (.map (some pb)) (vK (y.cl, y.nu)) true).run Tryd.prog (w2.alloc (.cells #[.int .i64 y.cl, .int .i64 y.nu] 71)) = .ok (.tuple #[.int .i64 ((pk : Int) + 1), .bool true]) (w2.alloc (.cells #[.int .i64 y.cl, .int .i64 y.nu] 71)) := (by have := HAM.out.mpp.get (y.cl, y.nu) HSM.out.2; rw [HRL.out] at this; simpa using this); have hqi : (qs.length : Int) = rs.length := (by have := HQL.out; omega); have HZ2 : Hid (wr.heap.size ≤ w2.heap.size) := mkHid (by have := b2.size; simp at this; omega); clear hl2 hq2 b2 hx2)
        | (go_at_call 31; refine (begins_any (w2.alloc (.cells #[.int .i64 y.cl, .int .i64 y.nu] 71)) _ qa qc rs qs (HAS2.out.ens.below (ba (Below.refl _ w2) _)) HAM.out.ens hqc true (by simp only [true_iff]; exact ⟨by have := HQL.out; omega, by rw [fs_take, HQF.out, List.take_of_length_le (by simp)]⟩)).mono ?_; rintro r w4 ⟨rfl, b4⟩; have HAM4 := mkHid (HAM.out.below b4); have hx4 := (b4.block wr.heap.size (by have := lt_of_heap HX2.out; simp; omega)).trans ((heap_alloc_old w2 _ (lt_of_heap HX2.out)).trans HX2.out); have hk4 := (b4.block w2.heap.size (by simp)).trans (heap_alloc_new w2 (.cells #[.int .i64 y.cl, .int .i64 y.nu] 71)); clear q0 q1 q2 q3 q4 q5 q6 q7 q8 q9 hlp; obtain ⟨q0, q1, q2, q3, q4, q5, q6, q7, q8, q9⟩ := ent_cells hx4; have kq0 : w4.cell? ⟨w2.heap.size, 0, none⟩ = some (.int .i64 y.cl) := cell_of_block hk4 rfl; have kq1 : w4.cell? ⟨w2.heap.size, 1, none⟩ = some (.int .i64 y.nu) := cell_of_block hk4 rfl; obtain ⟨wu, hput, hAu, hKu⟩ := HAM4.out.putP HNE.out.1 HNE.out.2.1 (y.cl, y.nu) HSM.out.2 ((pk : Int) + 1); simp only [vK] at hput; have HAU := mkHid hAu; have hxu := (hKu.block wr.heap.size (lt_of_heap hx4) (by have := HNE.out.2.2.2; have := HNX.out; omega)).trans hx4; obtain ⟨z0, z1, z2, z3, z4, z5, z6, z7, z8, z9⟩ := ent_cells hxu; have hlj := hAu.mjj.get y.cl; obtain ⟨wz, hpj, hAz, hzs⟩ := hAu.putJ HNE.out.1 HNE.out.2.2.1 y.cl y.nu; have HAZ := mkHid hAz; have HAUS : Hid (sz ≤ wu.heap.size) := mkHid (by have h1 := HNX.out; have h2 := HZ2.out; have h3 := b4.size; have h4 := hKu.size; simp at h3; omega); have HAZS : Hid (sz ≤ wz.heap.size) := mkHid (Nat.le_trans HAUS.out hzs); clear hx4 hk4 b4 hAu hKu hxu hAz hzs; rw [HLS.out] at hlj; simp only [Option.getD_some, Option.isSome_some] at hlj; clear hpj))
      go_roundw
      case rel => exact ⟨j + 1, qs, (upP mp (y.cl, y.nu) ((pk : Int) + 1)), by go_num, by omega, ⟨qa, qc, rfl, hqc⟩, mkHid ⟨⟨HAU.out.bel, HAU.out.ens, HQS.out, by have := HQL.out; have := HAS1.out.le; omega, HAU.out.mpp, by rw [HQF.out]; exact HAU.out.mjj, by rw [HQF.out]; exact rel_there HAS1.out.rel HPK.out⟩, HAUS.out⟩⟩
      case measure => simp [intOf]; omega
end Go.Proofs.YtehnimafjgodeaaDoor
