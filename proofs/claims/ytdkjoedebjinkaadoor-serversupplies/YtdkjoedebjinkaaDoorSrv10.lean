/- The law's helper ran: a row of ticks, played. -/
import Derived.Test.YtdkjoedebjinkaaDoorSrv9
namespace Go.Proofs.YtdkjoedebjinkaaDoor
open Go.ChangeShapes Go.WideShapes Go.ChangeAt Go.RowKit

theorem range_snoc {α : Type} (f : Nat → α) (i : Nat) : (List.range (i + 1)).map f = (List.range i).map f ++ [f i] := by rw [List.range_succ, List.map_append]; rfl
theorem len_map (f : Nat → Bool) (i : Nat) : ((List.range i).map f).length = i := by simp
/-- What ran answers. -/
def RanP (W0 Wc : World) (b : Nat) (f : Nat → Bool) (e : Ending) (w' : World) : Prop := ∃ (p r : Value) (n base : Nat), e = .returned (.tuple #[p, r]) ∧ n ≤ 400 ∧ Below W0.heap.size W0 w' ∧ Below b Wc w' ∧ w'.ownsRow base 4 1 r n (((List.range n).map f).map Value.bool)
theorem ranP_mk {W0 Wc w' : World} {b : Nat} {f : Nat → Bool} {e : Ending} (p r : Value) (n base : Nat) (h1 : e = .returned (.tuple #[p, r])) (h2 : n ≤ 400) (h3 : Below W0.heap.size W0 w') (h4 : Below b Wc w') (h5 : w'.ownsRow base 4 1 r n (((List.range n).map f).map Value.bool)) : RanP W0 Wc b f e w' := ⟨p, r, n, base, h1, h2, h3, h4, h5⟩
set_option maxRecDepth 100000 in
set_option maxHeartbeats 12800000 in
theorem ran_is (W0 Wc : World) (b : Nat) (s : Sv) (m : Int) (al : Option Addr) (cap : Nat) (ts : List Int) (a : Addr) (hb0 : Below W0.heap.size W0 Wc) (hlb : W0.heap.size ≤ b) (hs : SB Wc b s m false ⟨false, 0, m⟩) (he : Wc.cell? ⟨0, 0, none⟩ = some (vE a)) (hel : 0 < W0.heap.size) (h : okN s m) (hI : Iw W0 (.slice al ts.length cap) ts) (hl : (ts.length : Int) ≤ 9223372036854775807) :
    Calls Tryd.prog 24 #[.pointer (some ⟨b, 0, none⟩), vR s m (.slice al ts.length cap)] Wc fun e w' => RanP W0 Wc b (chdS s m (wkR ts) (chR ts)) e w' := by
  obtain ⟨ie, HIE⟩ := be_ex
  have HI := mkHid hI
  obtain ⟨hk, hm0, hm1⟩ := h
  have HK := mkHid hk
  have HS0 : Hid (RS W0 Wc (((Wc.alloc (.cells #[.int .i64 s.1, .int .i64 s.2.1, .int .i64 s.2.2, .int .i64 m, .slice al ts.length cap] 26)).alloc (.cells #[] 4)).alloc (.cells #[] 4)) Wc.heap.size b (Wc.heap.size + 1) s m (.slice al ts.length cap) false ⟨false, 0, m⟩ a (.slice (some ⟨Wc.heap.size + 1, 0, none⟩) 0 0) (.slice (some ⟨Wc.heap.size + 2, 0, none⟩) 0 0) [] []) := by
    have hlt := hs.lt
    have q1 := TB.start (Wc.alloc (.cells #[.int .i64 s.1, .int .i64 s.2.1, .int .i64 s.2.2, .int .i64 m, .slice al ts.length cap] 26))
    have q2 : (Wc.alloc (.cells #[.int .i64 s.1, .int .i64 s.2.1, .int .i64 s.2.2, .int .i64 m, .slice al ts.length cap] 26)).heap.size = Wc.heap.size + 1 := by simp
    rw [q2] at q1
    have b1 : Below Wc.heap.size Wc (((Wc.alloc (.cells #[.int .i64 s.1, .int .i64 s.2.1, .int .i64 s.2.2, .int .i64 m, .slice al ts.length cap] 26)).alloc (.cells #[] 4)).alloc (.cells #[] 4)) := ba (ba (ba (Below.refl _ _) _) _) _
    exact mkHid ⟨bt hb0 b1, b1.mono (by omega), hlb, by omega, by omega, by omega, ((rb_new Wc s m (.slice al ts.length cap)).hold (ba (ba (Below.refl _ _) _) _)), (b1.block _ hlt).trans hs, kc he b1, hel, q1⟩
  clear hI hk hs he hb0
  obtain ⟨k, q, t⟩ := s
  go_enter Tryd.func24, Tryd.ntmps24
  go_wp2
  go_loopw [6, 7, 16] (fun uv vv iv wr => ∃ (i : Nat) (wk : Bool), iv = .int .i64 (i : Int) ∧ i ≤ ts.length ∧ i ≤ 400 ∧ Hid (RS W0 Wc wr Wc.heap.size b (Wc.heap.size + 1) (k, q, t) m (.slice al ts.length cap) wk (runS (k, q, t) m (wkR ts) (chR ts) i) a uv vv ((List.range i).map (wkR ts)) ((List.range i).map (chdS (k, q, t) m (wkR ts) (chR ts))))) (fun _ _ iv _ => ts.length - (intOf iv).toNat)
  case atStart => exact ⟨0, false, rfl, by omega, by omega, HS0⟩
  case round =>
    obtain ⟨i, wk, rfl, hi, hi2, HR⟩ := hrel
    clear HS0
    by_cases hlt : i < ts.length
    · obtain ⟨bb, off, z, rfl, hz, hcell⟩ := HI.out.at HR.out.bel i hlt
      have hli : (i : Int) < ts.length := by omega
      by_cases hle : i < 400
      · have hlj : (i : Int) < 400 := by omega
        obtain ⟨N, hN⟩ : ∃ N, N = m + (i : Int) := ⟨_, rfl⟩
        have eN : IntKind.i64.wrap (m + (i : Int)) = N := by rw [hN]; exact wfit (by omega) (by omega)
        obtain ⟨A1, hA1⟩ : ∃ A1, bits .and .i64 z 1 = A1 := ⟨_, rfl⟩
        obtain ⟨A2, v2, hA2, hv2⟩ := bit_cases z 2
        have w1 : wkR ts i = (A1 == 1) := by unfold wkR; rw [getD_of hz, hA1]
        have w2 : btR ts i = v2 := by unfold btR; rw [getD_of hz, hA2]; rcases hv2 with ⟨rfl, rfl⟩ | ⟨rfl, e⟩ <;> simp_all
        have HC := mkHid (begin_is wr b (k, q, t) m N wk (A1 == 1) _ HR.out.sb hm0 (by omega) (by omega) HK.out)
        have HM := mkHid (mid_gm HK.out m (wkR ts) (chR ts) i)
        have hmm : begS (k, q, t) m N (A1 == 1) (runS (k, q, t) m (wkR ts) (chR ts) i) = midS (k, q, t) m (wkR ts) (chR ts) i := by unfold midS; rw [w1, hN]
        rw [hmm] at HC
        have hch : chdS (k, q, t) m (wkR ts) (chR ts) i = (rdyS (A1 == 1) (midS (k, q, t) m (wkR ts) (chR ts) i) && v2) := by unfold chdS; rw [w1]; simp only [chR]; rw [w2]
        have HRU := mkHid (run_succ (k, q, t) m (wkR ts) (chR ts) i)
        have HU1 := mkHid (range_snoc (wkR ts) i)
        have HV1 := mkHid (range_snoc (chdS (k, q, t) m (wkR ts) (chR ts)) i)
        rw [w1] at HU1
        have HB2 := mkHid (HM.out.b2 HK.out)
        have HLN : Hid (((List.range i).map (wkR ts)).length ≤ 400 ∧ ((List.range i).map (chdS (k, q, t) m (wkR ts) (chR ts))).length ≤ 400) := mkHid ⟨by rw [len_map]; omega, by rw [len_map]; omega⟩
        have HSM : Hid ((i + 1 ≤ ts.length) ∧ i + 1 ≤ 400) := mkHid ⟨by omega, by omega⟩
        have HMu : Hid (ts.length - (i + 1) < ts.length - i) := mkHid (by omega)
        have x3 := HR.out.rb.c3
        rw [hch] at HRU HV1
        clear hmm hN w1 w2 hch hz hlt hle hi hi2
        generalize (List.range i).map (wkR ts) = US at *
        generalize (List.range i).map (chdS (k, q, t) m (wkR ts) (chR ts)) = VS at *
        generalize midS (k, q, t) m (wkR ts) (chR ts) i = y at *
        generalize runS (k, q, t) m (wkR ts) (chR ts) i = x at *
        have hcs : (rdyS (A1 == 1) y = false) ∨ (rdyS (A1 == 1) y = true ∧ v2 = true ∧ A2 = 2) ∨ (rdyS (A1 == 1) y = true ∧ v2 = false ∧ (A2 == 2) = false) := by
          cases rdyS (A1 == 1) y
          · exact .inl rfl
          · rcases hv2 with ⟨e1, e2⟩ | ⟨e1, e2⟩
            · exact .inr (.inl ⟨rfl, e1, e2⟩)
            · exact .inr (.inr ⟨rfl, e1, e2⟩)
        clear hv2
        rcases hcs with hr | ⟨hr, rfl, rfl⟩ | ⟨hr, rfl, e2⟩
        · have HRR := mkHid hr
          rw [hr] at HC HRU HV1
          clear hr
          go_wp2_with (first | (go_at_call 15; refine HC.out.mono ?_; rintro e w4 ⟨rfl, hs4, hk4⟩; have HR4 := mkHid (HR.out.step hk4 hs4); clear hs4 hk4 x3) | (at_builtin; refine wpList_append_srcV _ rfl (.tmp 32) (.tmp 36) 45 45 rfl (Wc.heap.size + 1) 4 ie Tryd.underlying45 HIE.out.1 (.bool false) 1 HIE.out.2.1 rfl HIE.out.2.2.1 HIE.out.2.2.2 _ US.length (US.map Value.bool) rfl (HR4.out.alloc (.cells #[.bool (A1 == 1)] 4)).two.o1 (.slice (some ⟨w4.heap.size, 0, none⟩) 1 1) 1 [.bool (A1 == 1)] rfl (src_b1 w4 (A1 == 1)) (by have := HLN.out; unfold maxLen; omega) (by have := HLN.out; omega) (HR4.out.alloc (.cells #[.bool (A1 == 1)] 4)).two.sz ?_; intro v5 w5 ho5 hg5 hat5; have HR5 := mkHid ((HR4.out.alloc (.cells #[.bool (A1 == 1)] 4)).app1 ho5 hg5 hat5); clear ho5 hg5 hat5) | (at_builtin; refine wpList_append_srcV _ rfl (.tmp 38) (.tmp 50) 45 45 rfl (Wc.heap.size + 1) 4 ie Tryd.underlying45 HIE.out.1 (.bool false) 1 HIE.out.2.1 rfl HIE.out.2.2.1 HIE.out.2.2.2 _ VS.length (VS.map Value.bool) rfl (HR5.out.alloc (.cells #[.bool false] 4)).two.o2 (.slice (some ⟨w5.heap.size, 0, none⟩) 1 1) 1 [.bool false] rfl (src_b1 w5 false) (by have := HLN.out; unfold maxLen; omega) (by have := HLN.out; omega) (HR5.out.alloc (.cells #[.bool false] 4)).two.sz ?_; intro v7 w7 ho7 hg7 hat7; have HR7 := mkHid ((HR5.out.alloc (.cells #[.bool false] 4)).app2 ho7 hg7 hat7); clear ho7 hg7 hat7))
          go_roundw
          case rel => exact ⟨i + 1, _, by go_num, HSM.out.1, HSM.out.2, mkHid (by rw [HRU.out, HU1.out, HV1.out]; exact HR7.out)⟩
          case measure => exact HMu.out
        · have HRR := mkHid hr
          rw [hr] at HC HRU HV1
          clear hr
          go_wp2_with (first | (go_at_call 15; refine HC.out.mono ?_; rintro e w4 ⟨rfl, hs4, hk4⟩; have HR4 := mkHid (HR.out.step hk4 hs4); clear hs4 hk4 x3) | (at_builtin; refine wpList_append_srcV _ rfl (.tmp 32) (.tmp 36) 45 45 rfl (Wc.heap.size + 1) 4 ie Tryd.underlying45 HIE.out.1 (.bool false) 1 HIE.out.2.1 rfl HIE.out.2.2.1 HIE.out.2.2.2 _ US.length (US.map Value.bool) rfl (HR4.out.alloc (.cells #[.bool (A1 == 1)] 4)).two.o1 (.slice (some ⟨w4.heap.size, 0, none⟩) 1 1) 1 [.bool (A1 == 1)] rfl (src_b1 w4 (A1 == 1)) (by have := HLN.out; unfold maxLen; omega) (by have := HLN.out; omega) (HR4.out.alloc (.cells #[.bool (A1 == 1)] 4)).two.sz ?_; intro v5 w5 ho5 hg5 hat5; have HR5 := mkHid ((HR4.out.alloc (.cells #[.bool (A1 == 1)] 4)).app1 ho5 hg5 hat5); clear ho5 hg5 hat5) | (go_at_call 17; refine (charge_yes w5 b _ m _ _ HR5.out.sb HRR.out HM.out.b0 HB2.out).mono ?_; rintro e w6 ⟨rfl, hs6, hk6⟩; have HR6 := mkHid (HR5.out.step hk6 hs6); clear hs6 hk6) | (at_builtin; refine wpList_append_srcV _ rfl (.tmp 38) (.tmp 50) 45 45 rfl (Wc.heap.size + 1) 4 ie Tryd.underlying45 HIE.out.1 (.bool false) 1 HIE.out.2.1 rfl HIE.out.2.2.1 HIE.out.2.2.2 _ VS.length (VS.map Value.bool) rfl (HR6.out.alloc (.cells #[.bool true] 4)).two.o2 (.slice (some ⟨w6.heap.size, 0, none⟩) 1 1) 1 [.bool true] rfl (src_b1 w6 true) (by have := HLN.out; unfold maxLen; omega) (by have := HLN.out; omega) (HR6.out.alloc (.cells #[.bool true] 4)).two.sz ?_; intro v7 w7 ho7 hg7 hat7; have HR7 := mkHid ((HR6.out.alloc (.cells #[.bool true] 4)).app2 ho7 hg7 hat7); clear ho7 hg7 hat7))
          go_roundw
          case rel => exact ⟨i + 1, _, by go_num, HSM.out.1, HSM.out.2, mkHid (by rw [HRU.out, HU1.out, HV1.out]; exact HR7.out)⟩
          case measure => exact HMu.out
        · have HRR := mkHid hr
          rw [hr] at HC HRU HV1
          clear hr
          go_wp2_with (first | (go_at_call 15; refine HC.out.mono ?_; rintro e w4 ⟨rfl, hs4, hk4⟩; have HR4 := mkHid (HR.out.step hk4 hs4); clear hs4 hk4 x3) | (at_builtin; refine wpList_append_srcV _ rfl (.tmp 32) (.tmp 36) 45 45 rfl (Wc.heap.size + 1) 4 ie Tryd.underlying45 HIE.out.1 (.bool false) 1 HIE.out.2.1 rfl HIE.out.2.2.1 HIE.out.2.2.2 _ US.length (US.map Value.bool) rfl (HR4.out.alloc (.cells #[.bool (A1 == 1)] 4)).two.o1 (.slice (some ⟨w4.heap.size, 0, none⟩) 1 1) 1 [.bool (A1 == 1)] rfl (src_b1 w4 (A1 == 1)) (by have := HLN.out; unfold maxLen; omega) (by have := HLN.out; omega) (HR4.out.alloc (.cells #[.bool (A1 == 1)] 4)).two.sz ?_; intro v5 w5 ho5 hg5 hat5; have HR5 := mkHid ((HR4.out.alloc (.cells #[.bool (A1 == 1)] 4)).app1 ho5 hg5 hat5); clear ho5 hg5 hat5) | (at_builtin; refine wpList_append_srcV _ rfl (.tmp 38) (.tmp 50) 45 45 rfl (Wc.heap.size + 1) 4 ie Tryd.underlying45 HIE.out.1 (.bool false) 1 HIE.out.2.1 rfl HIE.out.2.2.1 HIE.out.2.2.2 _ VS.length (VS.map Value.bool) rfl (HR5.out.alloc (.cells #[.bool false] 4)).two.o2 (.slice (some ⟨w5.heap.size, 0, none⟩) 1 1) 1 [.bool false] rfl (src_b1 w5 false) (by have := HLN.out; unfold maxLen; omega) (by have := HLN.out; omega) (HR5.out.alloc (.cells #[.bool false] 4)).two.sz ?_; intro v7 w7 ho7 hg7 hat7; have HR7 := mkHid ((HR5.out.alloc (.cells #[.bool false] 4)).app2 ho7 hg7 hat7); clear ho7 hg7 hat7))
          go_roundw
          case rel => exact ⟨i + 1, _, by go_num, HSM.out.1, HSM.out.2, mkHid (by rw [HRU.out, HU1.out, HV1.out]; exact HR7.out)⟩
          case measure => exact HMu.out
      · have hlj : 400 ≤ (i : Int) := by omega
        have HLE := mkHid hi2
        clear hlt hle hi2 hi
        go_wp2
        go_ret2
        exact ranP_mk _ _ i _ rfl HLE.out HR.out.bel HR.out.fr (by have := HR.out.two.o2; rw [len_map] at this; exact this)
    · have hge : i = ts.length := by omega
      have hge2 : ¬ (i : Int) < ts.length := by omega
      have HLE := mkHid hi2
      clear hge hlt hi2 hi
      go_wp2
      go_ret2
      exact ranP_mk _ _ i _ rfl HLE.out HR.out.bel HR.out.fr (by have := HR.out.two.o2; rw [len_map] at this; exact this)
end Go.Proofs.YtdkjoedebjinkaaDoor
