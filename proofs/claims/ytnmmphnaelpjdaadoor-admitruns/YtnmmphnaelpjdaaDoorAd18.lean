/- Servers as jobs that run by earliest deadline: none is late, and no busy time is longer than all requests take. -/
import Derived.Test.YtnmmphnaelpjdaaDoorAd17
import Derived.Test.YtnmmphnaelpjdaaDoorTill
import Derived.BigQuiet
import Derived.Deep.QuietTactic
namespace Go.Proofs.YtnmmphnaelpjdaaDoor
open Go.ChangeShapes Go.WideShapes Go.ChangeAt Go.RowKit
set_option maxRecDepth 100000
set_option linter.unusedVariables false
set_option maxRecDepth 100000
attribute [local go_sem] World.cell?_alloc_some frozen_alloc_some

theorem freeD {P : Program} {md : Region.Mode} {ops : Array Oper} {Q : Exit → Act → World → Prop} {T : World → Prop} {s n : Nat} {l : Array Bool} {t : List Value} {df : List Deferred} {w : World} {oi : Oper} (i d : Nat) (v : Value) (hi : ops[i]? = some oi) (hd : oi.dst = some d) (hs : Region.noSelect ops = true) (hf : Region.free md ops l i = true) (hr : (Region.ready md ops l).contains i = true)
    (his : i ≠ s) (hQ : ∀ c a w, Q (.panic c) (a.put oi.dst v) w → Q (.panic c) a w) (hT : l.getD s true = false → T w) (hy : YieldsIf P ops (fun _ => True) oi v ⟨t.toArray, df⟩) (h : wpT P md ops Q T s n (l.setIfInBounds i true) ⟨(t.set d v).toArray, df⟩ w) : wpT P md ops Q T s (n + 1) l ⟨t.toArray, df⟩ w := by
  refine wpT_free i v hi hs hf hr his hQ hT hy ?_
  rw [hd]
  simpa [Act.put] using h
theorem firstD {P : Program} {md : Region.Mode} {ops : Array Oper} {Q : Exit → Act → World → Prop} {T : World → Prop} {s n : Nat} {l : Array Bool} {t : List Value} {df : List Deferred} {w : World} {oi : Oper} (i d : Nat) (v : Value) (hi : ops[i]? = some oi) (hd : oi.dst = some d) (hs : Region.noSelect ops = true) (hf : Region.free md ops l i = true) (hr : (Region.ready md ops l).contains i = true) (hsf : l.getD s true = false)
    (his : i ≠ s) (hw : waits md ops s i = true) (hQ : ∀ c a w, Q (.panic c) (a.put oi.dst v) w → Q (.panic c) a w) (hy : YieldsIf P ops T oi v ⟨t.toArray, df⟩) (hT : T w) (h : wpT P md ops Q T s n (l.setIfInBounds i true) ⟨(t.set d v).toArray, df⟩ w) : wpT P md ops Q T s (n + 1) l ⟨t.toArray, df⟩ w := by
  refine wpT_first i v hi hs hf hr hsf his hw hQ hy hT ?_
  rw [hd]
  simpa [Act.put] using h
theorem upd_upd (f : Nat → Int) (j : Nat) (a b : Int) : upd (upd f j a) j b = upd f j b := by
  funext i
  unfold upd
  by_cases e : i = j <;> simp [e]
theorem cell_set_ne {w : World} {p g o i : Nat} {v : Value} (h : p ≠ g) : (w.setCell ⟨g, i, none⟩ v).cell? ⟨p, o, none⟩ = w.cell? ⟨p, o, none⟩ := by
  have hg : ¬ g = p := fun e => h e.symm
  simp [World.setCell, World.cell?, Array.getElem?_modify, hg]
set_option maxHeartbeats 51200000 in
theorem run_is (w : World) (al aw : Option Addr) (cl cw : Nat) (xs : List Sv) (ws : List Int) (Q T : Nat → Int) (d : Int) (hx : Svs w (.slice al xs.length cl) xs) (h8 : xs.length ≤ 8) (hk : Srv xs Q T) (hf : ∀ l, 1 ≤ l → tot (sdem · l) xs ≤ l) (hr : tot (sreq · d) xs ≤ d) (hd : 1 ≤ d) (hd1 : d ≤ 4096) (hA : Iw w (.slice aw ws.length cw) ws) (hws : ∀ x ∈ ws, 0 ≤ x ∧ x ≤ 39) (hlw : ws.length ≤ 50) :
    Calls Tryd.prog 25 #[.slice al xs.length cl, .slice aw ws.length cw, .int .i64 1500] w fun e w' => ∃ M, e = .returned (.tuple #[.bool false, .int .i64 M]) ∧ M ≤ d ∧ Below w.heap.size w w' := by
  have hmk := make_ib xs.length h8
  have HK := mkHid hk
  have HF := mkHid hf
  have HRR := mkHid hr
  have HS := mkHid hx
  have HAW := mkHid hA
  have HWS := mkHid hws
  have h8i : (xs.length : Int) ≤ 8 := by omega
  have hlwi : (ws.length : Int) ≤ 50 := by omega
  have HQ : Hid (∀ i, i < xs.length → 1 ≤ Q i ∧ Q i ≤ T i ∧ T i ≤ 256) := mkHid (fun i hi => by
    obtain ⟨⟨o1, o2, o3, o4, o5⟩, k2, e1, e2⟩ := hk i _ (List.getElem?_eq_getElem hi)
    omega)
  clear hk hf hr hx hA hws
  go_enter Tryd.func25, Tryd.ntmps25
  go_wp2
  obtain ⟨W0, hW0⟩ : ∃ W0, W0 = ((w.alloc (.cells (ib (fun _ => 0) xs.length) 3)).alloc (.cells (ib (fun _ => 0) xs.length) 3)).alloc (.cells (ib (fun _ => 0) xs.length) 3) := ⟨_, rfl⟩
  obtain ⟨gl, hgl⟩ : ∃ g, g = w.heap.size := ⟨_, rfl⟩
  obtain ⟨ge, hge⟩ : ∃ g, g = w.heap.size + 1 := ⟨_, rfl⟩
  obtain ⟨gx, hgx⟩ : ∃ g, g = w.heap.size + 1 + 1 := ⟨_, rfl⟩
  have HL0 : Hid (IB W0 gl (fun _ => 0) xs.length) := mkHid (by rw [hW0, hgl]; exact IB.alloc (IB.alloc (heap_alloc_new w _) _) _)
  have HE0 : Hid (IB W0 ge (fun _ => 0) xs.length) := mkHid (by rw [hW0, hge]; refine IB.alloc ?_ _; have := heap_alloc_new (w.alloc (.cells (ib (fun _ => 0) xs.length) 3)) (.cells (ib (fun _ => 0) xs.length) 3); simpa [IB] using this)
  have HX0 : Hid (IB W0 gx (fun _ => 0) xs.length) := mkHid (by rw [hW0, hgx]; have := heap_alloc_new ((w.alloc (.cells (ib (fun _ => 0) xs.length) 3)).alloc (.cells (ib (fun _ => 0) xs.length) 3)) (.cells (ib (fun _ => 0) xs.length) 3); simpa [IB] using this)
  have HB0 : Hid (Below w.heap.size w W0) := mkHid (by rw [hW0]; exact ba (ba (ba (Below.refl _ _) _) _) _)
  have HG : Hid (w.heap.size ≤ gl ∧ w.heap.size ≤ ge ∧ w.heap.size ≤ gx ∧ gl ≠ ge ∧ gl ≠ gx ∧ ge ≠ gx) := mkHid (by omega)
  rw [← hW0, ← hgx, ← hge, ← hgl]
  clear hW0 hgl hge hgx hmk
  go_loopw [11, 12, 13, 14] (fun tv bv mv nv wr => ∃ (T0 B M N : Int) (L E X : Nat → Int), tv = .int .i64 T0 ∧ bv = .int .i64 B ∧ mv = .int .i64 M ∧ nv = .int .i64 N ∧ 0 ≤ N ∧ N ≤ 1500 ∧ 0 ≤ T0 ∧ T0 ≤ N * 8 ∧ Hid (Tick xs Q T d N B M L E X) ∧ Hid (IB wr gl L xs.length) ∧ Hid (IB wr ge E xs.length) ∧ Hid (IB wr gx X xs.length) ∧ Hid (Below w.heap.size w wr)) (fun _ _ _ nv _ => (1500 - intOf nv).toNat)
  case atStart => exact ⟨0, 0, 0, 0, _, _, _, rfl, rfl, rfl, rfl, by omega, by omega, by omega, by omega, mkHid (tick_zero (by omega) (fun i hi => by have := HQ.out i hi; omega)), HL0, HE0, HX0, HB0⟩
  case round =>
    obtain ⟨T0, B, M, N, L, E, X, rfl, rfl, rfl, rfl, N0, N1, t0, t1, HTK, HL, HE, HX, HB⟩ := hrel
    clear HL0 HE0 HX0 HB0
    obtain ⟨bb0, bb1, mm0, mm1⟩ : 0 ≤ B ∧ B ≤ d ∧ 0 ≤ M ∧ M ≤ d := ⟨HTK.out.b0, HTK.out.b1, HTK.out.m0, HTK.out.m1⟩
    by_cases hN : N < 1500
    · go_wp2
      rename World => wo
      go_loopw [16, 36] (fun dv jv wq => ∃ (j : Nat) (b : Bool), dv = .bool b ∧ jv = .int .i64 (j : Int) ∧ j ≤ xs.length ∧ Hid (b = true ↔ ∀ i, i < j → L i = 0) ∧ wq = wo) (fun _ jv _ => xs.length - (intOf jv).toNat)
      case atStart => exact ⟨0, true, rfl, rfl, Nat.zero_le _, mkHid ⟨fun _ i hi => by omega, fun _ => rfl⟩, rfl⟩
      case round =>
        obtain ⟨j, b, rfl, rfl, hj, HBB, hwq⟩ := hrel
        rw [hwq]
        clear hwq
        by_cases hlt : j < xs.length
        · have hji : (j : Int) < xs.length := by omega
          have c0 := HL.out.cell hlt
          obtain ⟨lj, hlj⟩ : ∃ l, L j = l := ⟨_, rfl⟩
          rw [hlj] at c0
          have HLJ := mkHid hlj
          clear hlj
          have hcs : (b = false) ∨ (b = true ∧ lj = 0) ∨ (b = true ∧ ¬ lj = 0) := by cases b <;> simp <;> omega
          rcases hcs with rfl | ⟨rfl, rfl⟩ | ⟨rfl, hl0⟩
          · go_wp2
            go_roundw
            case rel => exact ⟨j + 1, false, by go_num, by go_num, by omega, mkHid ⟨fun e => (by cases e), fun h => HBB.out.mpr (fun i hi => h i (by omega))⟩, by first | rfl | trivial⟩
            case measure => simp [intOf]; omega
          · go_wp2
            go_roundw
            case rel =>
              refine ⟨j + 1, true, by go_num, by go_num, by omega, mkHid ⟨fun _ i hi => ?_, fun _ => rfl⟩, by first | rfl | trivial⟩
              by_cases e : i = j
              · subst e; exact HLJ.out
              · exact HBB.out.mp rfl i (by omega)
            case measure => simp [intOf]; omega
          · go_wp2
            go_roundw
            case rel => exact ⟨j + 1, false, by go_num, by go_num, by omega, mkHid ⟨fun e => (by cases e), fun h => absurd (HLJ.out.symm.trans (h j (by omega))) hl0⟩, by first | rfl | trivial⟩
            case measure => simp [intOf]; omega
        · obtain rfl : j = xs.length := by omega
          have hmid : ∃ B1, (b = true ∧ B1 = 0 ∨ b = false ∧ B1 = B) ∧ Mid xs Q T d N B1 L E X := by
            cases b
            · exact ⟨B, .inr ⟨rfl, rfl⟩, tick_on HK.out HRR.out hd HTK.out (fun h => by have := HBB.out.mpr h; cases this)⟩
            · exact ⟨0, .inl ⟨rfl, rfl⟩, tick_done hd HTK.out (HBB.out.mp rfl)⟩
          obtain ⟨B1, hB1, hmid⟩ := hmid
          have HMID := mkHid hmid
          have HOT : Hid (∀ i, 0 ≤ i → i < xs.length → 0 < L i → N < E i) := mkHid (fun i _ hi hl => tick_time HK.out HF.out HTK.out hi hl)
          clear hmid HBB HTK
          have hB10 : 0 ≤ B1 ∧ B1 + 1 ≤ d := ⟨HMID.out.b0, HMID.out.b1⟩
          have HST : Hid True := mkHid trivial
          rcases hB1 with ⟨rfl, hb1⟩ | ⟨rfl, hb1⟩
          · as_aux_lemma =>
            subst hb1
            go_wp2
            go_loopw [11, 15, 51] (fun tv bv jv wq => ∃ (j : Nat) (T1 bi : Int) (L1 E1 X1 : Nat → Int), tv = .int .i64 T1 ∧ bv = .int .i64 bi ∧ jv = .int .i64 (j : Int) ∧ j ≤ xs.length ∧ 0 ≤ T1 ∧ T1 ≤ N * 8 + j ∧ -1 ≤ bi ∧ bi ≤ 8 ∧ Hid (Mid xs Q T d N 0 L1 E1 X1) ∧ Hid (Best L1 E1 j bi) ∧ Hid (∀ i, j ≤ i → i < xs.length → 0 < L1 i → N < E1 i) ∧ Hid (IB wq gl L1 xs.length) ∧ Hid (IB wq ge E1 xs.length) ∧ Hid (IB wq gx X1 xs.length) ∧ Hid (Below w.heap.size w wq)) (fun _ _ jv _ => xs.length - (intOf jv).toNat)
            case atStart => exact ⟨0, T0, -1, L, E, X, rfl, rfl, rfl, Nat.zero_le _, t0, by omega, by omega, by omega, HMID, mkHid (best_zero _ _), mkHid (fun i _ b c => HOT.out i (by omega) b c), HL, HE, HX, HB⟩
            case round =>
              clear HL HE HX HB HMID HOT
              obtain ⟨j, T1, bi, L1, E1, X1, rfl, rfl, rfl, hj, t10, t11, bi0, bi1, HMID, HBE, HOT, HL, HE, HX, HB⟩ := hrel
              by_cases hlt : j < xs.length
              · as_aux_lemma =>
                obtain ⟨b, off, kk, qx, tt, hae, hxj, c0, c1, c2⟩ := HS.out.at HB.out j hlt
                subst hae
                obtain ⟨⟨o1, o2, o3, o4, o5⟩, k2, e1, e2⟩ := HK.out j _ hxj
                simp only at o1 o2 o3 o4 o5 k2 e1 e2
                have hji : (j : Int) < xs.length := by omega
                obtain ⟨jj1, jj2, jj3⟩ := HMID.out.jobs j hlt
                obtain ⟨b1, b2, b3, b4⟩ := HMID.out.bnd j hlt
                have cl := HL.out.cell hlt
                have ce := HE.out.cell hlt
                have cx := HX.out.cell hlt
                obtain ⟨lj, hlj⟩ : ∃ l, L1 j = l := ⟨_, rfl⟩
                obtain ⟨ej, hej⟩ : ∃ l, E1 j = l := ⟨_, rfl⟩
                obtain ⟨xj, hxj2⟩ : ∃ l, X1 j = l := ⟨_, rfl⟩
                have hot : 0 < lj → N < ej := fun h => by rw [← hej]; exact HOT.out j (Nat.le_refl _) hlt (by rw [hlj]; exact h)
                rw [hlj] at cl jj1 jj2
                rw [hej] at ce jj3 b1 b2
                rw [hxj2] at cx jj3 b3 b4
                rw [e1] at jj2
                have HLJ := mkHid hlj
                have HEJ := mkHid hej
                have HXJ := mkHid hxj2
                have HE1 := mkHid (And.intro e1 e2)
                have ht5 : tt ≤ 256 := o5
                clear hlj hej hxj2 hxj e1 e2 k2
                obtain ⟨B2, hB2⟩ : ∃ W, W = wr.alloc (oS (kk, qx, tt)) := ⟨_, rfl⟩
                have HL2 : Hid (IB B2 gl L1 xs.length) := mkHid (by rw [hB2]; exact HL.out.alloc _)
                have HE2 : Hid (IB B2 ge E1 xs.length) := mkHid (by rw [hB2]; exact HE.out.alloc _)
                have HX2 : Hid (IB B2 gx X1 xs.length) := mkHid (by rw [hB2]; exact HX.out.alloc _)
                have HB2 : Hid (Below w.heap.size w B2) := mkHid (by rw [hB2]; exact ba HB.out _)
                have HBX : Hid (B2 = wr.alloc (oS (kk, qx, tt))) := mkHid hB2
                clear hB2
                by_cases hl0 : 0 < lj
                · as_aux_lemma =>
                  have hnl : ¬ ej ≤ N := by have := hot hl0; omega
                  have hlz : ¬ lj = 0 := by omega
                  clear hot
                  have hxN : ¬ xj ≤ N := by omega
                  go_wp2
                  rw [← HBX.out]
                  have dl := HL2.out.cell hlt
                  have de := HE2.out.cell hlt
                  have dx := HX2.out.cell hlt
                  rw [HLJ.out] at dl
                  rw [HEJ.out] at de
                  rw [HXJ.out] at dx
                  clear cl ce cx HL HE HX HB HBX c0 c1 c2
                  have hbs : bi < 0 ∨ (∃ k : Nat, bi = k ∧ k < xs.length) := by
                    rcases HBE.out with ⟨h, _⟩ | ⟨k, h, h1, _⟩
                    · left; omega
                    · right; exact ⟨k, h, by omega⟩
                  rcases hbs with hb0 | ⟨kb, hkb, hkl⟩
                  · as_aux_lemma =>
                    have HB28 := mkHid (show bi < 0 from hb0)
                    go_quiet (fail)
                    go_wp2
                    go_roundw
                    case rel => exact ⟨j + 1, T1, (j : Int), _, _, _, by go_num, by go_num, by go_num, by omega, t10, (by omega), by omega, by omega, HMID, mkHid (best_new HBE.out (by rw [HLJ.out]; omega) (.inl HB28.out)), mkHid (fun i a b c => HOT.out i (by omega) b c), HL2, HE2, HX2, (mkHid (bdN HB2.out _))⟩
                    case measure => simp [intOf]; omega
                  · as_aux_lemma =>
                    subst hkb
                    have hkli : (kb : Int) < xs.length := by omega
                    have ck := HE2.out.cell hkl
                    obtain ⟨ek, hek⟩ : ∃ e, E1 kb = e := ⟨_, rfl⟩
                    rw [hek] at ck
                    have HEK := mkHid hek
                    clear hek
                    by_cases hee : ej < ek
                    · as_aux_lemma =>
                      go_quiet (fail)
                      go_wp2
                      go_roundw
                      case rel => exact ⟨j + 1, T1, (j : Int), _, _, _, by go_num, by go_num, by go_num, by omega, t10, (by omega), by omega, by omega, HMID, mkHid (best_new HBE.out (by rw [HLJ.out]; omega) (.inr (fun k e => by obtain rfl : kb = k := (by omega); rw [HEJ.out, HEK.out]; exact hee))), mkHid (fun i a b c => HOT.out i (by omega) b c), HL2, HE2, HX2, (mkHid (bdN HB2.out _))⟩
                      case measure => simp [intOf]; omega
                    · as_aux_lemma =>
                      go_quiet (fail)
                      go_wp2
                      go_roundw
                      case rel => exact ⟨j + 1, T1, (kb : Int), _, _, _, by go_num, by go_num, by go_num, by omega, t10, (by omega), by omega, by omega, HMID, mkHid (best_old HBE.out (by rw [HEJ.out, HEK.out]; omega)), mkHid (fun i a b c => HOT.out i (by omega) b c), HL2, HE2, HX2, (mkHid (bdN HB2.out _))⟩
                      case measure => simp [intOf]; omega
                · as_aux_lemma =>
                  obtain rfl : lj = 0 := by omega
                  clear hot hl0
                  by_cases hxN : xj ≤ N
                  · as_aux_lemma =>
                    have ewn : IntKind.i64.wrap (N + tt) = N + tt := wfit (by omega) (by omega)
                    go_wp2
                    rw [← HBX.out]
                    obtain ⟨pb, hpb⟩ : ∃ p, p = wr.heap.size := ⟨_, rfl⟩
                    have k0 : B2.cell? ⟨pb, 0, none⟩ = some (.int .i64 kk) := by rw [HBX.out, hpb]; simp [go_sem]
                    have k1 : B2.cell? ⟨pb, 1, none⟩ = some (.int .i64 qx) := by rw [HBX.out, hpb]; simp [go_sem]
                    have k2 : B2.cell? ⟨pb, 2, none⟩ = some (.int .i64 tt) := by rw [HBX.out, hpb]; simp [go_sem]
                    have HPB : Hid (pb ≠ gl ∧ pb ≠ ge ∧ pb ≠ gx) := mkHid (by have h1 := HL.out.lt; have h2 := HE.out.lt; have h3 := HX.out.lt; omega)
                    rw [← hpb]
                    have HPQ := mkHid hpb
                    clear hpb
                    have dl := HL2.out.cell hlt
                    have de := HE2.out.cell hlt
                    have dx := HX2.out.cell hlt
                    rw [HLJ.out] at dl
                    rw [HEJ.out] at de
                    rw [HXJ.out] at dx
                    have fl := HL2.out.frozen (i := j)
                    have fe := HE2.out.frozen (i := j)
                    have fx := HX2.out.frozen (i := j)
                    clear cl ce cx HL HE HX HB HBX c0 c1 c2
                    refine wp_region_held_drew (S := fun w' => w'.cell? ⟨pb, 0, none⟩ = some (.int .i64 kk) ∧ w'.cell? ⟨pb, 1, none⟩ = some (.int .i64 qx) ∧ w'.cell? ⟨pb, 2, none⟩ = some (.int .i64 tt)) (by kernel_rfl) ⟨k0, k1, k2⟩ (fun hHeld => ?_)
                    refine takeD 0 83 (.slice (some ⟨gl, 0, none⟩) xs.length xs.length) rfl rfl (by kernel_rfl) (by kernel_rfl) (by kernel_rfl) (fun _ _ _ h => h) (Or.inl ⟨by kernel_rfl, by intro w hSw; (try dsimp only at hSw); go_simp⟩) hHeld ?_
                    simp only [List.set_cons_zero, List.set_cons_succ]
                    refine takeD 1 84 (.int .i64 (j : Int)) rfl rfl (by kernel_rfl) (by kernel_rfl) (by kernel_rfl) (fun _ _ _ h => h) (Or.inl ⟨by kernel_rfl, by intro w hSw; (try dsimp only at hSw); go_simp⟩) hHeld ?_
                    simp only [List.set_cons_zero, List.set_cons_succ]
                    refine takeD 2 85 (.slice (some ⟨ge, 0, none⟩) xs.length xs.length) rfl rfl (by kernel_rfl) (by kernel_rfl) (by kernel_rfl) (fun _ _ _ h => h) (Or.inl ⟨by kernel_rfl, by intro w hSw; (try dsimp only at hSw); go_simp⟩) hHeld ?_
                    simp only [List.set_cons_zero, List.set_cons_succ]
                    refine takeD 3 86 (.int .i64 (j : Int)) rfl rfl (by kernel_rfl) (by kernel_rfl) (by kernel_rfl) (fun _ _ _ h => h) (Or.inl ⟨by kernel_rfl, by intro w hSw; (try dsimp only at hSw); go_simp⟩) hHeld ?_
                    simp only [List.set_cons_zero, List.set_cons_succ]
                    refine takeD 4 87 (.slice (some ⟨gx, 0, none⟩) xs.length xs.length) rfl rfl (by kernel_rfl) (by kernel_rfl) (by kernel_rfl) (fun _ _ _ h => h) (Or.inl ⟨by kernel_rfl, by intro w hSw; (try dsimp only at hSw); go_simp⟩) hHeld ?_
                    simp only [List.set_cons_zero, List.set_cons_succ]
                    refine takeD 5 88 (.int .i64 (j : Int)) rfl rfl (by kernel_rfl) (by kernel_rfl) (by kernel_rfl) (fun _ _ _ h => h) (Or.inl ⟨by kernel_rfl, by intro w hSw; (try dsimp only at hSw); go_simp⟩) hHeld ?_
                    simp only [List.set_cons_zero, List.set_cons_succ]
                    refine takeD 6 89 (.pointer (some ⟨pb, 1, none⟩)) rfl rfl (by kernel_rfl) (by kernel_rfl) (by kernel_rfl) (fun _ _ _ h => h) (Or.inl ⟨by kernel_rfl, by intro w hSw; (try dsimp only at hSw); go_simp⟩) hHeld ?_
                    simp only [List.set_cons_zero, List.set_cons_succ]
                    refine takeD 7 90 (.int .i64 qx) rfl rfl (by kernel_rfl) (by kernel_rfl) (by kernel_rfl) (fun _ _ _ h => h) (Or.inl ⟨by kernel_rfl, by intro w hSw; (try dsimp only at hSw); go_simp⟩) hHeld ?_
                    simp only [List.set_cons_zero, List.set_cons_succ]
                    refine takeD 8 91 (.int .i64 N) rfl rfl (by kernel_rfl) (by kernel_rfl) (by kernel_rfl) (fun _ _ _ h => h) (Or.inl ⟨by kernel_rfl, by intro w hSw; (try dsimp only at hSw); go_simp⟩) hHeld ?_
                    simp only [List.set_cons_zero, List.set_cons_succ]
                    refine takeD 9 92 (.pointer (some ⟨pb, 2, none⟩)) rfl rfl (by kernel_rfl) (by kernel_rfl) (by kernel_rfl) (fun _ _ _ h => h) (Or.inl ⟨by kernel_rfl, by intro w hSw; (try dsimp only at hSw); go_simp⟩) hHeld ?_
                    simp only [List.set_cons_zero, List.set_cons_succ]
                    refine takeD 10 93 (.int .i64 tt) rfl rfl (by kernel_rfl) (by kernel_rfl) (by kernel_rfl) (fun _ _ _ h => h) (Or.inl ⟨by kernel_rfl, by intro w hSw; (try dsimp only at hSw); go_simp⟩) hHeld ?_
                    simp only [List.set_cons_zero, List.set_cons_succ]
                    refine takeD 11 94 (.int .i64 (N + tt)) rfl rfl (by kernel_rfl) (by kernel_rfl) (by kernel_rfl) (fun _ _ _ h => h) (Or.inl ⟨by kernel_rfl, by intro w hSw; (try dsimp only at hSw); go_simp⟩) hHeld ?_
                    simp only [List.set_cons_zero, List.set_cons_succ]
                    refine takeD 12 95 (.int .i64 N) rfl rfl (by kernel_rfl) (by kernel_rfl) (by kernel_rfl) (fun _ _ _ h => h) (Or.inl ⟨by kernel_rfl, by intro w hSw; (try dsimp only at hSw); go_simp⟩) hHeld ?_
                    simp only [List.set_cons_zero, List.set_cons_succ]
                    refine takeD 13 96 (.pointer (some ⟨pb, 2, none⟩)) rfl rfl (by kernel_rfl) (by kernel_rfl) (by kernel_rfl) (fun _ _ _ h => h) (Or.inl ⟨by kernel_rfl, by intro w hSw; (try dsimp only at hSw); go_simp⟩) hHeld ?_
                    simp only [List.set_cons_zero, List.set_cons_succ]
                    refine takeD 14 97 (.int .i64 tt) rfl rfl (by kernel_rfl) (by kernel_rfl) (by kernel_rfl) (fun _ _ _ h => h) (Or.inl ⟨by kernel_rfl, by intro w hSw; (try dsimp only at hSw); go_simp⟩) hHeld ?_
                    simp only [List.set_cons_zero, List.set_cons_succ]
                    refine takeD 15 98 (.int .i64 (N + tt)) rfl rfl (by kernel_rfl) (by kernel_rfl) (by kernel_rfl) (fun _ _ _ h => h) (Or.inl ⟨by kernel_rfl, by intro w hSw; (try dsimp only at hSw); go_simp⟩) hHeld ?_
                    simp only [List.set_cons_zero, List.set_cons_succ]
                    refine takeD 16 99 (.pointer (some ⟨gl, j, none⟩)) rfl rfl (by kernel_rfl) (by kernel_rfl) (by kernel_rfl) (fun _ _ _ h => h) (Or.inl ⟨by kernel_rfl, by intro w hSw; (try dsimp only at hSw); go_simp⟩) hHeld ?_
                    simp only [List.set_cons_zero, List.set_cons_succ]
                    refine wpAnyH_ready (rs := [17]) (by kernel_rfl) (by simp) (AllReadyH.cons rfl (fun K hK => ?_) AllReadyH.nil)
                    go_simp
                    obtain ⟨C1, hC1⟩ : ∃ W, W = (B2.setCell ⟨gl, j, none⟩ (.int .i64 qx)).drew := ⟨_, rfl⟩
                    have HL3 : Hid (IB C1 gl (upd L1 j qx) xs.length) := mkHid (by rw [hC1]; exact (HL2.out.set hlt qx).drew)
                    have HE3 : Hid (IB C1 ge E1 xs.length) := mkHid (by rw [hC1]; exact (HE2.out.other HG.out.2.2.2.1 _ _).drew)
                    have HX3 : Hid (IB C1 gx X1 xs.length) := mkHid (by rw [hC1]; exact (HX2.out.other HG.out.2.2.2.2.1 _ _).drew)
                    have HB3 : Hid (Below w.heap.size w C1) := mkHid (by rw [hC1]; exact (HB2.out.setCell HG.out.1 _).drew)
                    have m0 : C1.cell? ⟨pb, 0, none⟩ = some (.int .i64 kk) := by rw [hC1]; exact (show (B2.setCell ⟨gl, j, none⟩ (.int .i64 qx)).cell? _ = _ from (cell_set_ne HPB.out.1).trans k0)
                    have m1 : C1.cell? ⟨pb, 1, none⟩ = some (.int .i64 qx) := by rw [hC1]; exact (show (B2.setCell ⟨gl, j, none⟩ (.int .i64 qx)).cell? _ = _ from (cell_set_ne HPB.out.1).trans k1)
                    have m2 : C1.cell? ⟨pb, 2, none⟩ = some (.int .i64 tt) := by rw [hC1]; exact (show (B2.setCell ⟨gl, j, none⟩ (.int .i64 qx)).cell? _ = _ from (cell_set_ne HPB.out.1).trans k2)
                    try rw [← hC1]
                    clear hC1
                    refine hK.out _ _ ⟨m0, m1, m2⟩ (fun hHeld => ?_)
                    clear hK K k0 k1 k2 dl fl HL2 HE2 HX2 HB2
                    (try simp only [Act.put])
                    refine takeD 18 100 (.pointer (some ⟨ge, j, none⟩)) rfl rfl (by kernel_rfl) (by kernel_rfl) (by kernel_rfl) (fun _ _ _ h => h) (Or.inl ⟨by kernel_rfl, by intro w hSw; (try dsimp only at hSw); go_simp⟩) hHeld ?_
                    simp only [List.set_cons_zero, List.set_cons_succ]
                    have de3 := HE3.out.cell hlt
                    rw [HEJ.out] at de3
                    have fe3 := HE3.out.frozen (i := j)
                    refine wpAnyH_ready (rs := [19]) (by kernel_rfl) (by simp) (AllReadyH.cons rfl (fun K hK => ?_) AllReadyH.nil)
                    go_simp
                    obtain ⟨C2, hC2⟩ : ∃ W, W = C1.setCell ⟨ge, j, none⟩ (.int .i64 (N + tt)) := ⟨_, rfl⟩
                    have HL4 : Hid (IB C2 gl (upd L1 j qx) xs.length) := mkHid (by rw [hC2]; exact HL3.out.other (Ne.symm HG.out.2.2.2.1) _ _)
                    have HE4 : Hid (IB C2 ge (upd E1 j (N + tt)) xs.length) := mkHid (by rw [hC2]; exact HE3.out.set hlt _)
                    have HX4 : Hid (IB C2 gx X1 xs.length) := mkHid (by rw [hC2]; exact HX3.out.other HG.out.2.2.2.2.2 _ _)
                    have HB4 : Hid (Below w.heap.size w C2) := mkHid (by rw [hC2]; exact HB3.out.setCell HG.out.2.1 _)
                    have p0 : C2.cell? ⟨pb, 0, none⟩ = some (.int .i64 kk) := by rw [hC2]; exact (cell_set_ne HPB.out.2.1).trans m0
                    have p1 : C2.cell? ⟨pb, 1, none⟩ = some (.int .i64 qx) := by rw [hC2]; exact (cell_set_ne HPB.out.2.1).trans m1
                    have p2 : C2.cell? ⟨pb, 2, none⟩ = some (.int .i64 tt) := by rw [hC2]; exact (cell_set_ne HPB.out.2.1).trans m2
                    try rw [← hC2]
                    clear hC2
                    refine hK.out _ _ ⟨p0, p1, p2⟩ (fun hHeld => ?_)
                    clear hK K m0 m1 m2 HL3 HE3 HX3 HB3 de de3 fe fe3
                    (try simp only [Act.put])
                    refine takeD 20 101 (.pointer (some ⟨gx, j, none⟩)) rfl rfl (by kernel_rfl) (by kernel_rfl) (by kernel_rfl) (fun _ _ _ h => h) (Or.inl ⟨by kernel_rfl, by intro w hSw; (try dsimp only at hSw); go_simp⟩) hHeld ?_
                    simp only [List.set_cons_zero, List.set_cons_succ]
                    have dx4 := HX4.out.cell hlt
                    rw [HXJ.out] at dx4
                    have fx4 := HX4.out.frozen (i := j)
                    refine wpAnyH_ready (rs := [21]) (by kernel_rfl) (by simp) (AllReadyH.cons rfl (fun K hK => ?_) AllReadyH.nil)
                    go_simp
                    obtain ⟨C3, hC3⟩ : ∃ W, W = C2.setCell ⟨gx, j, none⟩ (.int .i64 (N + tt)) := ⟨_, rfl⟩
                    have HL5 : Hid (IB C3 gl (upd L1 j qx) xs.length) := mkHid (by rw [hC3]; exact HL4.out.other (Ne.symm HG.out.2.2.2.2.1) _ _)
                    have HE5 : Hid (IB C3 ge (upd E1 j (N + tt)) xs.length) := mkHid (by rw [hC3]; exact HE4.out.other (Ne.symm HG.out.2.2.2.2.2) _ _)
                    have HX5 : Hid (IB C3 gx (upd X1 j (N + tt)) xs.length) := mkHid (by rw [hC3]; exact HX4.out.set hlt _)
                    have HB5 : Hid (Below w.heap.size w C3) := mkHid (by rw [hC3]; exact HB4.out.setCell HG.out.2.2.1 _)
                    have r0 : C3.cell? ⟨pb, 0, none⟩ = some (.int .i64 kk) := by rw [hC3]; exact (cell_set_ne HPB.out.2.2).trans p0
                    have r1 : C3.cell? ⟨pb, 1, none⟩ = some (.int .i64 qx) := by rw [hC3]; exact (cell_set_ne HPB.out.2.2).trans p1
                    have r2 : C3.cell? ⟨pb, 2, none⟩ = some (.int .i64 tt) := by rw [hC3]; exact (cell_set_ne HPB.out.2.2).trans p2
                    try rw [← hC3]
                    clear hC3
                    refine hK.out _ _ ⟨r0, r1, r2⟩ (fun hHeld => ?_)
                    clear hK K p0 p1 p2 HL4 HE4 HX4 HB4 dx dx4 fx fx4 hHeld r0 r1 r2
                    refine wpAnyH_done (by kernel_rfl) ?_ _
                    have HBE2 : Hid (Best (upd L1 j qx) (upd E1 j (N + tt)) j bi) := mkHid (best_kept HBE.out qx (N + tt))
                    have HOT2 : Hid (∀ i, j + 1 ≤ i → i < xs.length → 0 < upd L1 j qx i → N < upd E1 j (N + tt) i) := mkHid (fun i a b c => by
                      rw [upd_ne _ _ (by omega)] at c ⊢
                      exact HOT.out i (by omega) b c)
                    have HLJ2 : Hid (upd L1 j qx j = qx) := mkHid (upd_at _ _ _)
                    have HEJ2 : Hid (upd E1 j (N + tt) j = N + tt) := mkHid (upd_at _ _ _)
                    have HXJ2 : Hid (upd X1 j (N + tt) j = N + tt) := mkHid (upd_at _ _ _)
                    have HLZ := mkHid HLJ.out
                    have HXZ : Hid (X1 j ≤ N) := mkHid (by rw [HXJ.out]; exact hxN)
                    clear HLJ HEJ HXJ HOT HBE
                    have HLJ := HLJ2
                    have HEJ := HEJ2
                    clear HLJ2 HEJ2
                    have dl := HL5.out.cell hlt
                    have de := HE5.out.cell hlt
                    rw [HLJ.out] at dl
                    rw [HEJ.out] at de
                    have q0 : 0 < qx := by omega
                    by_cases hw0 : (0 : Int) < ws.length
                    · as_aux_lemma =>
                      obtain ⟨m, hm1, hm2⟩ : ∃ m : Nat, T1.tmod ws.length = (m : Int) ∧ m < ws.length := by
                        refine ⟨(T1.tmod ws.length).toNat, ?_, ?_⟩
                        · have := Int.tmod_nonneg (ws.length : Int) t10; omega
                        · have h1 := Int.tmod_nonneg (ws.length : Int) t10
                          have h2 := Int.tmod_lt_of_pos T1 hw0
                          omega
                      obtain ⟨ab, aoff, av, hae, hav, ca⟩ := HAW.out.at HB5.out m hm2
                      subst hae
                      obtain ⟨av0, av1⟩ := HWS.out av (List.mem_of_getElem? hav)
                      have hmi : (m : Int) < ws.length := by omega
                      have ewm : IntKind.i64.wrap (m : Int) = (m : Int) := wfit (by omega) (by omega)
                      have ewv : IntKind.i64.wrap (N + tt + av) = N + tt + av := wfit (by omega) (by omega)
                      have ewt : IntKind.i64.wrap (T1 + 1) = T1 + 1 := wfit (by omega) (by omega)
                      have hwz : ¬ (ws.length : Int) = 0 := by omega
                      have cx := HX5.out.cell hlt
                      rw [HXJ2.out] at cx
                      have fx := HX5.out.frozen (i := j)
                      clear hav
                      go_wp2
                      have hwn : ¬ ws = [] := fun e => by rw [e] at hw0; simp at hw0
                      have hT : (fun w' : World => w'.cell? ⟨gx, j, none⟩ = some (.int .i64 (N + tt)) ∧ w'.cell? ⟨ab, aoff + m, none⟩ = some (.int .i64 av)) C3.drew := ⟨cx, ca⟩
                      refine wp_region_till (fun w' => w'.cell? ⟨gx, j, none⟩ = some (.int .i64 (N + tt)) ∧ w'.cell? ⟨ab, aoff + m, none⟩ = some (.int .i64 av)) 13 (by kernel_rfl) ?_
                      refine freeD 0 105 (.slice (some ⟨gx, 0, none⟩) xs.length xs.length) rfl rfl (by kernel_rfl) (by kernel_rfl) (by kernel_rfl) (by decide) (fun _ _ _ h => h) (fun _ => hT) (Or.inl ⟨by kernel_rfl, by intro w _; go_simp⟩) ?_
                      simp only [List.set_cons_zero, List.set_cons_succ]
                      refine freeD 1 106 (.int .i64 (j : Int)) rfl rfl (by kernel_rfl) (by kernel_rfl) (by kernel_rfl) (by decide) (fun _ _ _ h => h) (fun _ => hT) (Or.inl ⟨by kernel_rfl, by intro w _; go_simp⟩) ?_
                      simp only [List.set_cons_zero, List.set_cons_succ]
                      refine freeD 2 107 (.pointer (some ⟨gx, j, none⟩)) rfl rfl (by kernel_rfl) (by kernel_rfl) (by kernel_rfl) (by decide) (fun _ _ _ h => h) (fun _ => hT) (Or.inl ⟨by kernel_rfl, by intro w _; go_simp⟩) ?_
                      simp only [List.set_cons_zero, List.set_cons_succ]
                      refine firstD 3 108 (.int .i64 (N + tt)) rfl rfl (by kernel_rfl) (by kernel_rfl) (by kernel_rfl) (by kernel_rfl) (by decide) (by kernel_rfl) (fun _ _ _ h => h) (Or.inl ⟨by kernel_rfl, by intro w hSw; (try dsimp only at hSw); go_simp⟩) hT ?_
                      simp only [List.set_cons_zero, List.set_cons_succ]
                      refine freeD 4 109 (.slice (some ⟨ab, aoff, none⟩) ws.length cw) rfl rfl (by kernel_rfl) (by kernel_rfl) (by kernel_rfl) (by decide) (fun _ _ _ h => h) (fun _ => hT) (Or.inl ⟨by kernel_rfl, by intro w _; go_simp⟩) ?_
                      simp only [List.set_cons_zero, List.set_cons_succ]
                      refine freeD 5 110 (.int .i64 T1) rfl rfl (by kernel_rfl) (by kernel_rfl) (by kernel_rfl) (by decide) (fun _ _ _ h => h) (fun _ => hT) (Or.inl ⟨by kernel_rfl, by intro w _; go_simp⟩) ?_
                      simp only [List.set_cons_zero, List.set_cons_succ]
                      refine freeD 6 111 (.slice (some ⟨ab, aoff, none⟩) ws.length cw) rfl rfl (by kernel_rfl) (by kernel_rfl) (by kernel_rfl) (by decide) (fun _ _ _ h => h) (fun _ => hT) (Or.inl ⟨by kernel_rfl, by intro w _; go_simp⟩) ?_
                      simp only [List.set_cons_zero, List.set_cons_succ]
                      refine freeD 7 112 (.int .i64 (ws.length : Int)) rfl rfl (by kernel_rfl) (by kernel_rfl) (by kernel_rfl) (by decide) (fun _ _ _ h => h) (fun _ => hT) (Or.inl ⟨by kernel_rfl, by intro w _; go_simp⟩) ?_
                      simp only [List.set_cons_zero, List.set_cons_succ]
                      refine freeD 8 113 (.int .i64 (m : Int)) rfl rfl (by kernel_rfl) (by kernel_rfl) (by kernel_rfl) (by decide) (fun _ _ _ h => h) (fun _ => hT) (Or.inl ⟨by kernel_rfl, by intro w _; go_simp⟩) ?_
                      simp only [List.set_cons_zero, List.set_cons_succ]
                      refine freeD 9 114 (.pointer (some ⟨ab, aoff + m, none⟩)) rfl rfl (by kernel_rfl) (by kernel_rfl) (by kernel_rfl) (by decide) (fun _ _ _ h => h) (fun _ => hT) (Or.inl ⟨by kernel_rfl, by intro w _; go_simp⟩) ?_
                      simp only [List.set_cons_zero, List.set_cons_succ]
                      refine firstD 10 115 (.int .i64 av) rfl rfl (by kernel_rfl) (by kernel_rfl) (by kernel_rfl) (by kernel_rfl) (by decide) (by kernel_rfl) (fun _ _ _ h => h) (Or.inl ⟨by kernel_rfl, by intro w hSw; (try dsimp only at hSw); go_simp⟩) hT ?_
                      simp only [List.set_cons_zero, List.set_cons_succ]
                      refine freeD 11 116 (.int .i64 (N + tt + av)) rfl rfl (by kernel_rfl) (by kernel_rfl) (by kernel_rfl) (by decide) (fun _ _ _ h => h) (fun _ => hT) (Or.inl ⟨by kernel_rfl, by intro w _; go_simp⟩) ?_
                      simp only [List.set_cons_zero, List.set_cons_succ]
                      refine freeD 12 117 (.pointer (some ⟨gx, j, none⟩)) rfl rfl (by kernel_rfl) (by kernel_rfl) (by kernel_rfl) (by decide) (fun _ _ _ h => h) (fun _ => hT) (Or.inl ⟨by kernel_rfl, by intro w _; go_simp⟩) ?_
                      simp only [List.set_cons_zero, List.set_cons_succ]
                      refine wpT_ready (rs := [13]) (by kernel_rfl) (by simp) (AllT.cons rfl (fun K hK => ?_) AllT.nil)
                      go_simp
                      obtain ⟨C4, hC4⟩ : ∃ W, W = (C3.setCell ⟨gx, j, none⟩ (.int .i64 (N + tt + av))).drew := ⟨_, rfl⟩
                      have HL6 : Hid (IB C4 gl (upd L1 j qx) xs.length) := mkHid (by rw [hC4]; exact (HL5.out.other (Ne.symm HG.out.2.2.2.2.1) _ _).drew)
                      have HE6 : Hid (IB C4 ge (upd E1 j (N + tt)) xs.length) := mkHid (by rw [hC4]; exact (HE5.out.other (Ne.symm HG.out.2.2.2.2.2) _ _).drew)
                      have HX6 : Hid (IB C4 gx (upd X1 j (N + tt + av)) xs.length) := mkHid (by rw [hC4, ← upd_upd X1 j (N + tt) (N + tt + av)]; exact (HX5.out.set hlt _).drew)
                      have HB6 : Hid (Below w.heap.size w C4) := mkHid (by rw [hC4]; exact (HB5.out.setCell HG.out.2.2.1 _).drew)
                      try rw [← hC4]
                      clear hC4 hT
                      refine hK.out _ _ (bool_no (by kernel_rfl)) ?_
                      clear hK K HL5 HE5 HX5 HB5 cx fx ca dl de
                      refine wpT_done (by kernel_rfl) ?_ _
                      have dl := HL6.out.cell hlt
                      have de := HE6.out.cell hlt
                      rw [HLJ.out] at dl
                      rw [HEJ.out] at de
                      have HMID2 : Hid (Mid xs Q T d N 0 (upd L1 j qx) (upd E1 j (N + tt)) (upd X1 j (N + tt + av))) := mkHid (by have h := mid_release (v := av) HK.out N0 hlt HMID.out HLZ.out HXZ.out av0 av1; rw [HE1.out.1, HE1.out.2] at h; exact h)
                      go_wp2
                      have hbs : bi < 0 ∨ (∃ k : Nat, bi = k ∧ k < xs.length) := by
                        rcases HBE2.out with ⟨h, _⟩ | ⟨k, h, h1, _⟩
                        · left; omega
                        · right; exact ⟨k, h, by omega⟩
                      rcases hbs with hb0 | ⟨kb, hkb, hkl⟩
                      · as_aux_lemma =>
                        have HB28 := mkHid (show bi < 0 from hb0)
                        go_quiet (fail)
                        go_wp2
                        go_roundw
                        case rel => exact ⟨j + 1, (T1 + 1), (j : Int), _, _, _, by go_num, by go_num, by go_num, by omega, (by omega), (by omega), by omega, by omega, HMID2, mkHid (best_new HBE2.out (by rw [HLJ.out]; omega) (.inl HB28.out)), mkHid (fun i a b c => HOT2.out i (by omega) b c), HL6, HE6, HX6, (mkHid (bdN HB6.out _))⟩
                        case measure => simp [intOf]; omega
                      · as_aux_lemma =>
                        subst hkb
                        have hkli : (kb : Int) < xs.length := by omega
                        have ck := HE6.out.cell hkl
                        obtain ⟨ek, hek⟩ : ∃ e, (upd E1 j (N + tt)) kb = e := ⟨_, rfl⟩
                        rw [hek] at ck
                        have HEK := mkHid hek
                        clear hek
                        by_cases hee : (N + tt) < ek
                        · as_aux_lemma =>
                          go_quiet (fail)
                          go_wp2
                          go_roundw
                          case rel => exact ⟨j + 1, (T1 + 1), (j : Int), _, _, _, by go_num, by go_num, by go_num, by omega, (by omega), (by omega), by omega, by omega, HMID2, mkHid (best_new HBE2.out (by rw [HLJ.out]; omega) (.inr (fun k e => by obtain rfl : kb = k := (by omega); rw [HEJ.out, HEK.out]; exact hee))), mkHid (fun i a b c => HOT2.out i (by omega) b c), HL6, HE6, HX6, (mkHid (bdN HB6.out _))⟩
                          case measure => simp [intOf]; omega
                        · as_aux_lemma =>
                          go_quiet (fail)
                          go_wp2
                          go_roundw
                          case rel => exact ⟨j + 1, (T1 + 1), (kb : Int), _, _, _, by go_num, by go_num, by go_num, by omega, (by omega), (by omega), by omega, by omega, HMID2, mkHid (best_old HBE2.out (by rw [HEJ.out, HEK.out]; omega)), mkHid (fun i a b c => HOT2.out i (by omega) b c), HL6, HE6, HX6, (mkHid (bdN HB6.out _))⟩
                          case measure => simp [intOf]; omega
                    · as_aux_lemma =>
                      have HMID2 : Hid (Mid xs Q T d N 0 (upd L1 j qx) (upd E1 j (N + tt)) (upd X1 j (N + tt))) := mkHid (by have h := mid_release (v := 0) HK.out N0 hlt HMID.out HLZ.out HXZ.out (by omega) (by omega); rw [HE1.out.1, HE1.out.2] at h; rw [Int.add_zero] at h; exact h)
                      go_wp2
                      have hbs : bi < 0 ∨ (∃ k : Nat, bi = k ∧ k < xs.length) := by
                        rcases HBE2.out with ⟨h, _⟩ | ⟨k, h, h1, _⟩
                        · left; omega
                        · right; exact ⟨k, h, by omega⟩
                      rcases hbs with hb0 | ⟨kb, hkb, hkl⟩
                      · as_aux_lemma =>
                        have HB28 := mkHid (show bi < 0 from hb0)
                        go_quiet (fail)
                        go_wp2
                        go_roundw
                        case rel => exact ⟨j + 1, T1, (j : Int), _, _, _, by go_num, by go_num, by go_num, by omega, t10, (by omega), by omega, by omega, HMID2, mkHid (best_new HBE2.out (by rw [HLJ.out]; omega) (.inl HB28.out)), mkHid (fun i a b c => HOT2.out i (by omega) b c), HL5, HE5, HX5, (mkHid (bdN HB5.out _))⟩
                        case measure => simp [intOf]; omega
                      · as_aux_lemma =>
                        subst hkb
                        have hkli : (kb : Int) < xs.length := by omega
                        have ck := HE5.out.cell hkl
                        obtain ⟨ek, hek⟩ : ∃ e, (upd E1 j (N + tt)) kb = e := ⟨_, rfl⟩
                        rw [hek] at ck
                        have HEK := mkHid hek
                        clear hek
                        by_cases hee : (N + tt) < ek
                        · as_aux_lemma =>
                          go_quiet (fail)
                          go_wp2
                          go_roundw
                          case rel => exact ⟨j + 1, T1, (j : Int), _, _, _, by go_num, by go_num, by go_num, by omega, t10, (by omega), by omega, by omega, HMID2, mkHid (best_new HBE2.out (by rw [HLJ.out]; omega) (.inr (fun k e => by obtain rfl : kb = k := (by omega); rw [HEJ.out, HEK.out]; exact hee))), mkHid (fun i a b c => HOT2.out i (by omega) b c), HL5, HE5, HX5, (mkHid (bdN HB5.out _))⟩
                          case measure => simp [intOf]; omega
                        · as_aux_lemma =>
                          go_quiet (fail)
                          go_wp2
                          go_roundw
                          case rel => exact ⟨j + 1, T1, (kb : Int), _, _, _, by go_num, by go_num, by go_num, by omega, t10, (by omega), by omega, by omega, HMID2, mkHid (best_old HBE2.out (by rw [HEJ.out, HEK.out]; omega)), mkHid (fun i a b c => HOT2.out i (by omega) b c), HL5, HE5, HX5, (mkHid (bdN HB5.out _))⟩
                          case measure => simp [intOf]; omega
                  · as_aux_lemma =>
                    go_wp2
                    rw [← HBX.out]
                    have dl := HL2.out.cell hlt
                    have de := HE2.out.cell hlt
                    have dx := HX2.out.cell hlt
                    rw [HLJ.out] at dl
                    rw [HEJ.out] at de
                    rw [HXJ.out] at dx
                    clear cl ce cx HL HE HX HB HBX c0 c1 c2
                    go_quiet (fail)
                    go_wp2
                    go_roundw
                    case rel => exact ⟨j + 1, T1, bi, _, _, _, by go_num, by go_num, by go_num, by omega, t10, by omega, by omega, by omega, HMID, mkHid (best_none HBE.out HLJ.out), mkHid (fun i a b c => HOT.out i (by omega) b c), HL2, HE2, HX2, mkHid (bdN HB2.out _)⟩
                    case measure => simp [intOf]; omega
              · as_aux_lemma =>
                obtain rfl : j = xs.length := by omega
                have hbe := HBE.out
                have hmid := HMID.out
                by_cases hb0 : bi < 0
                · as_aux_lemma =>
                  obtain rfl : bi = -1 := by omega
                  have HTK2 := mkHid (tick_idle N0 mm0 mm1 hmid hbe)
                  clear hbe hmid
                  go_wp2
                  go_roundw
                  case rel => exact ⟨T1, _, M, N + 1, L1, E1, X1, by go_num, by go_num, by go_num, by go_num, by omega, by omega, t10, by omega, HTK2, HL, HE, HX, HB⟩
                  case measure => simp [intOf]; omega
                · as_aux_lemma =>
                  obtain ⟨kb, rfl⟩ := Int.eq_ofNat_of_zero_le (show 0 ≤ bi by omega)
                  obtain ⟨htk, hkl, hlk⟩ := tick_run N0 mm0 mm1 hmid hbe
                  have HTK2 := mkHid htk
                  have hkli : (kb : Int) < xs.length := by omega
                  have ck := HL.out.cell hkl
                  have fk := HL.out.frozen (i := kb)
                  obtain ⟨jq1, jq2, _⟩ := hmid.jobs kb hkl
                  have hqq := HQ.out kb hkl
                  obtain ⟨lk, hlk2⟩ : ∃ l, L1 kb = l := ⟨_, rfl⟩
                  rw [hlk2] at ck hlk HTK2 jq1 jq2
                  have HLK := mkHid hlk2
                  have ewl : IntKind.i64.wrap (lk - 1) = lk - 1 := wfit (by omega) (by omega)
                  have ewb : IntKind.i64.wrap (0 + 1) = 0 + 1 := wfit (by omega) (by omega)
                  have HL2 : Hid (IB (wr.setCell ⟨gl, kb, none⟩ (.int .i64 (lk - 1))) gl (upd L1 kb (lk - 1)) xs.length) := mkHid (HL.out.set hkl _)
                  have HE2 : Hid (IB (wr.setCell ⟨gl, kb, none⟩ (.int .i64 (lk - 1))) ge E1 xs.length) := mkHid (HE.out.other HG.out.2.2.2.1 _ _)
                  have HX2 : Hid (IB (wr.setCell ⟨gl, kb, none⟩ (.int .i64 (lk - 1))) gx X1 xs.length) := mkHid (HX.out.other HG.out.2.2.2.2.1 _ _)
                  have HB2 : Hid (Below w.heap.size w (wr.setCell ⟨gl, kb, none⟩ (.int .i64 (lk - 1)))) := mkHid (HB.out.setCell HG.out.1 _)
                  clear hbe hmid htk hlk2
                  go_wp2
                  go_roundw
                  case rel => exact ⟨T1, 0 + 1, max M (0 + 1), N + 1, _, E1, X1, by go_num, by go_num, by go_num, by go_num, by omega, by omega, t10, by omega, HTK2, HL2, HE2, HX2, HB2⟩
                  case measure => simp [intOf]; omega
          · as_aux_lemma =>
            subst hb1
            go_wp2
            go_loopw [11, 15, 51] (fun tv bv jv wq => ∃ (j : Nat) (T1 bi : Int) (L1 E1 X1 : Nat → Int), tv = .int .i64 T1 ∧ bv = .int .i64 bi ∧ jv = .int .i64 (j : Int) ∧ j ≤ xs.length ∧ 0 ≤ T1 ∧ T1 ≤ N * 8 + j ∧ -1 ≤ bi ∧ bi ≤ 8 ∧ Hid (Mid xs Q T d N B1 L1 E1 X1) ∧ Hid (Best L1 E1 j bi) ∧ Hid (∀ i, j ≤ i → i < xs.length → 0 < L1 i → N < E1 i) ∧ Hid (IB wq gl L1 xs.length) ∧ Hid (IB wq ge E1 xs.length) ∧ Hid (IB wq gx X1 xs.length) ∧ Hid (Below w.heap.size w wq)) (fun _ _ jv _ => xs.length - (intOf jv).toNat)
            case atStart => exact ⟨0, T0, -1, L, E, X, rfl, rfl, rfl, Nat.zero_le _, t0, by omega, by omega, by omega, HMID, mkHid (best_zero _ _), mkHid (fun i _ b c => HOT.out i (by omega) b c), HL, HE, HX, HB⟩
            case round =>
              clear HL HE HX HB HMID HOT
              obtain ⟨j, T1, bi, L1, E1, X1, rfl, rfl, rfl, hj, t10, t11, bi0, bi1, HMID, HBE, HOT, HL, HE, HX, HB⟩ := hrel
              by_cases hlt : j < xs.length
              · as_aux_lemma =>
                obtain ⟨b, off, kk, qx, tt, hae, hxj, c0, c1, c2⟩ := HS.out.at HB.out j hlt
                subst hae
                obtain ⟨⟨o1, o2, o3, o4, o5⟩, k2, e1, e2⟩ := HK.out j _ hxj
                simp only at o1 o2 o3 o4 o5 k2 e1 e2
                have hji : (j : Int) < xs.length := by omega
                obtain ⟨jj1, jj2, jj3⟩ := HMID.out.jobs j hlt
                obtain ⟨b1, b2, b3, b4⟩ := HMID.out.bnd j hlt
                have cl := HL.out.cell hlt
                have ce := HE.out.cell hlt
                have cx := HX.out.cell hlt
                obtain ⟨lj, hlj⟩ : ∃ l, L1 j = l := ⟨_, rfl⟩
                obtain ⟨ej, hej⟩ : ∃ l, E1 j = l := ⟨_, rfl⟩
                obtain ⟨xj, hxj2⟩ : ∃ l, X1 j = l := ⟨_, rfl⟩
                have hot : 0 < lj → N < ej := fun h => by rw [← hej]; exact HOT.out j (Nat.le_refl _) hlt (by rw [hlj]; exact h)
                rw [hlj] at cl jj1 jj2
                rw [hej] at ce jj3 b1 b2
                rw [hxj2] at cx jj3 b3 b4
                rw [e1] at jj2
                have HLJ := mkHid hlj
                have HEJ := mkHid hej
                have HXJ := mkHid hxj2
                have HE1 := mkHid (And.intro e1 e2)
                have ht5 : tt ≤ 256 := o5
                clear hlj hej hxj2 hxj e1 e2 k2
                obtain ⟨B2, hB2⟩ : ∃ W, W = wr.alloc (oS (kk, qx, tt)) := ⟨_, rfl⟩
                have HL2 : Hid (IB B2 gl L1 xs.length) := mkHid (by rw [hB2]; exact HL.out.alloc _)
                have HE2 : Hid (IB B2 ge E1 xs.length) := mkHid (by rw [hB2]; exact HE.out.alloc _)
                have HX2 : Hid (IB B2 gx X1 xs.length) := mkHid (by rw [hB2]; exact HX.out.alloc _)
                have HB2 : Hid (Below w.heap.size w B2) := mkHid (by rw [hB2]; exact ba HB.out _)
                have HBX : Hid (B2 = wr.alloc (oS (kk, qx, tt))) := mkHid hB2
                clear hB2
                by_cases hl0 : 0 < lj
                · as_aux_lemma =>
                  have hnl : ¬ ej ≤ N := by have := hot hl0; omega
                  have hlz : ¬ lj = 0 := by omega
                  clear hot
                  have hxN : ¬ xj ≤ N := by omega
                  go_wp2
                  rw [← HBX.out]
                  have dl := HL2.out.cell hlt
                  have de := HE2.out.cell hlt
                  have dx := HX2.out.cell hlt
                  rw [HLJ.out] at dl
                  rw [HEJ.out] at de
                  rw [HXJ.out] at dx
                  clear cl ce cx HL HE HX HB HBX c0 c1 c2
                  have hbs : bi < 0 ∨ (∃ k : Nat, bi = k ∧ k < xs.length) := by
                    rcases HBE.out with ⟨h, _⟩ | ⟨k, h, h1, _⟩
                    · left; omega
                    · right; exact ⟨k, h, by omega⟩
                  rcases hbs with hb0 | ⟨kb, hkb, hkl⟩
                  · as_aux_lemma =>
                    have HB28 := mkHid (show bi < 0 from hb0)
                    go_quiet (fail)
                    go_wp2
                    go_roundw
                    case rel => exact ⟨j + 1, T1, (j : Int), _, _, _, by go_num, by go_num, by go_num, by omega, t10, (by omega), by omega, by omega, HMID, mkHid (best_new HBE.out (by rw [HLJ.out]; omega) (.inl HB28.out)), mkHid (fun i a b c => HOT.out i (by omega) b c), HL2, HE2, HX2, (mkHid (bdN HB2.out _))⟩
                    case measure => simp [intOf]; omega
                  · as_aux_lemma =>
                    subst hkb
                    have hkli : (kb : Int) < xs.length := by omega
                    have ck := HE2.out.cell hkl
                    obtain ⟨ek, hek⟩ : ∃ e, E1 kb = e := ⟨_, rfl⟩
                    rw [hek] at ck
                    have HEK := mkHid hek
                    clear hek
                    by_cases hee : ej < ek
                    · as_aux_lemma =>
                      go_quiet (fail)
                      go_wp2
                      go_roundw
                      case rel => exact ⟨j + 1, T1, (j : Int), _, _, _, by go_num, by go_num, by go_num, by omega, t10, (by omega), by omega, by omega, HMID, mkHid (best_new HBE.out (by rw [HLJ.out]; omega) (.inr (fun k e => by obtain rfl : kb = k := (by omega); rw [HEJ.out, HEK.out]; exact hee))), mkHid (fun i a b c => HOT.out i (by omega) b c), HL2, HE2, HX2, (mkHid (bdN HB2.out _))⟩
                      case measure => simp [intOf]; omega
                    · as_aux_lemma =>
                      go_quiet (fail)
                      go_wp2
                      go_roundw
                      case rel => exact ⟨j + 1, T1, (kb : Int), _, _, _, by go_num, by go_num, by go_num, by omega, t10, (by omega), by omega, by omega, HMID, mkHid (best_old HBE.out (by rw [HEJ.out, HEK.out]; omega)), mkHid (fun i a b c => HOT.out i (by omega) b c), HL2, HE2, HX2, (mkHid (bdN HB2.out _))⟩
                      case measure => simp [intOf]; omega
                · as_aux_lemma =>
                  obtain rfl : lj = 0 := by omega
                  clear hot hl0
                  by_cases hxN : xj ≤ N
                  · as_aux_lemma =>
                    have ewn : IntKind.i64.wrap (N + tt) = N + tt := wfit (by omega) (by omega)
                    go_wp2
                    rw [← HBX.out]
                    obtain ⟨pb, hpb⟩ : ∃ p, p = wr.heap.size := ⟨_, rfl⟩
                    have k0 : B2.cell? ⟨pb, 0, none⟩ = some (.int .i64 kk) := by rw [HBX.out, hpb]; simp [go_sem]
                    have k1 : B2.cell? ⟨pb, 1, none⟩ = some (.int .i64 qx) := by rw [HBX.out, hpb]; simp [go_sem]
                    have k2 : B2.cell? ⟨pb, 2, none⟩ = some (.int .i64 tt) := by rw [HBX.out, hpb]; simp [go_sem]
                    have HPB : Hid (pb ≠ gl ∧ pb ≠ ge ∧ pb ≠ gx) := mkHid (by have h1 := HL.out.lt; have h2 := HE.out.lt; have h3 := HX.out.lt; omega)
                    rw [← hpb]
                    have HPQ := mkHid hpb
                    clear hpb
                    have dl := HL2.out.cell hlt
                    have de := HE2.out.cell hlt
                    have dx := HX2.out.cell hlt
                    rw [HLJ.out] at dl
                    rw [HEJ.out] at de
                    rw [HXJ.out] at dx
                    have fl := HL2.out.frozen (i := j)
                    have fe := HE2.out.frozen (i := j)
                    have fx := HX2.out.frozen (i := j)
                    clear cl ce cx HL HE HX HB HBX c0 c1 c2
                    refine wp_region_held_drew (S := fun w' => w'.cell? ⟨pb, 0, none⟩ = some (.int .i64 kk) ∧ w'.cell? ⟨pb, 1, none⟩ = some (.int .i64 qx) ∧ w'.cell? ⟨pb, 2, none⟩ = some (.int .i64 tt)) (by kernel_rfl) ⟨k0, k1, k2⟩ (fun hHeld => ?_)
                    refine takeD 0 83 (.slice (some ⟨gl, 0, none⟩) xs.length xs.length) rfl rfl (by kernel_rfl) (by kernel_rfl) (by kernel_rfl) (fun _ _ _ h => h) (Or.inl ⟨by kernel_rfl, by intro w hSw; (try dsimp only at hSw); go_simp⟩) hHeld ?_
                    simp only [List.set_cons_zero, List.set_cons_succ]
                    refine takeD 1 84 (.int .i64 (j : Int)) rfl rfl (by kernel_rfl) (by kernel_rfl) (by kernel_rfl) (fun _ _ _ h => h) (Or.inl ⟨by kernel_rfl, by intro w hSw; (try dsimp only at hSw); go_simp⟩) hHeld ?_
                    simp only [List.set_cons_zero, List.set_cons_succ]
                    refine takeD 2 85 (.slice (some ⟨ge, 0, none⟩) xs.length xs.length) rfl rfl (by kernel_rfl) (by kernel_rfl) (by kernel_rfl) (fun _ _ _ h => h) (Or.inl ⟨by kernel_rfl, by intro w hSw; (try dsimp only at hSw); go_simp⟩) hHeld ?_
                    simp only [List.set_cons_zero, List.set_cons_succ]
                    refine takeD 3 86 (.int .i64 (j : Int)) rfl rfl (by kernel_rfl) (by kernel_rfl) (by kernel_rfl) (fun _ _ _ h => h) (Or.inl ⟨by kernel_rfl, by intro w hSw; (try dsimp only at hSw); go_simp⟩) hHeld ?_
                    simp only [List.set_cons_zero, List.set_cons_succ]
                    refine takeD 4 87 (.slice (some ⟨gx, 0, none⟩) xs.length xs.length) rfl rfl (by kernel_rfl) (by kernel_rfl) (by kernel_rfl) (fun _ _ _ h => h) (Or.inl ⟨by kernel_rfl, by intro w hSw; (try dsimp only at hSw); go_simp⟩) hHeld ?_
                    simp only [List.set_cons_zero, List.set_cons_succ]
                    refine takeD 5 88 (.int .i64 (j : Int)) rfl rfl (by kernel_rfl) (by kernel_rfl) (by kernel_rfl) (fun _ _ _ h => h) (Or.inl ⟨by kernel_rfl, by intro w hSw; (try dsimp only at hSw); go_simp⟩) hHeld ?_
                    simp only [List.set_cons_zero, List.set_cons_succ]
                    refine takeD 6 89 (.pointer (some ⟨pb, 1, none⟩)) rfl rfl (by kernel_rfl) (by kernel_rfl) (by kernel_rfl) (fun _ _ _ h => h) (Or.inl ⟨by kernel_rfl, by intro w hSw; (try dsimp only at hSw); go_simp⟩) hHeld ?_
                    simp only [List.set_cons_zero, List.set_cons_succ]
                    refine takeD 7 90 (.int .i64 qx) rfl rfl (by kernel_rfl) (by kernel_rfl) (by kernel_rfl) (fun _ _ _ h => h) (Or.inl ⟨by kernel_rfl, by intro w hSw; (try dsimp only at hSw); go_simp⟩) hHeld ?_
                    simp only [List.set_cons_zero, List.set_cons_succ]
                    refine takeD 8 91 (.int .i64 N) rfl rfl (by kernel_rfl) (by kernel_rfl) (by kernel_rfl) (fun _ _ _ h => h) (Or.inl ⟨by kernel_rfl, by intro w hSw; (try dsimp only at hSw); go_simp⟩) hHeld ?_
                    simp only [List.set_cons_zero, List.set_cons_succ]
                    refine takeD 9 92 (.pointer (some ⟨pb, 2, none⟩)) rfl rfl (by kernel_rfl) (by kernel_rfl) (by kernel_rfl) (fun _ _ _ h => h) (Or.inl ⟨by kernel_rfl, by intro w hSw; (try dsimp only at hSw); go_simp⟩) hHeld ?_
                    simp only [List.set_cons_zero, List.set_cons_succ]
                    refine takeD 10 93 (.int .i64 tt) rfl rfl (by kernel_rfl) (by kernel_rfl) (by kernel_rfl) (fun _ _ _ h => h) (Or.inl ⟨by kernel_rfl, by intro w hSw; (try dsimp only at hSw); go_simp⟩) hHeld ?_
                    simp only [List.set_cons_zero, List.set_cons_succ]
                    refine takeD 11 94 (.int .i64 (N + tt)) rfl rfl (by kernel_rfl) (by kernel_rfl) (by kernel_rfl) (fun _ _ _ h => h) (Or.inl ⟨by kernel_rfl, by intro w hSw; (try dsimp only at hSw); go_simp⟩) hHeld ?_
                    simp only [List.set_cons_zero, List.set_cons_succ]
                    refine takeD 12 95 (.int .i64 N) rfl rfl (by kernel_rfl) (by kernel_rfl) (by kernel_rfl) (fun _ _ _ h => h) (Or.inl ⟨by kernel_rfl, by intro w hSw; (try dsimp only at hSw); go_simp⟩) hHeld ?_
                    simp only [List.set_cons_zero, List.set_cons_succ]
                    refine takeD 13 96 (.pointer (some ⟨pb, 2, none⟩)) rfl rfl (by kernel_rfl) (by kernel_rfl) (by kernel_rfl) (fun _ _ _ h => h) (Or.inl ⟨by kernel_rfl, by intro w hSw; (try dsimp only at hSw); go_simp⟩) hHeld ?_
                    simp only [List.set_cons_zero, List.set_cons_succ]
                    refine takeD 14 97 (.int .i64 tt) rfl rfl (by kernel_rfl) (by kernel_rfl) (by kernel_rfl) (fun _ _ _ h => h) (Or.inl ⟨by kernel_rfl, by intro w hSw; (try dsimp only at hSw); go_simp⟩) hHeld ?_
                    simp only [List.set_cons_zero, List.set_cons_succ]
                    refine takeD 15 98 (.int .i64 (N + tt)) rfl rfl (by kernel_rfl) (by kernel_rfl) (by kernel_rfl) (fun _ _ _ h => h) (Or.inl ⟨by kernel_rfl, by intro w hSw; (try dsimp only at hSw); go_simp⟩) hHeld ?_
                    simp only [List.set_cons_zero, List.set_cons_succ]
                    refine takeD 16 99 (.pointer (some ⟨gl, j, none⟩)) rfl rfl (by kernel_rfl) (by kernel_rfl) (by kernel_rfl) (fun _ _ _ h => h) (Or.inl ⟨by kernel_rfl, by intro w hSw; (try dsimp only at hSw); go_simp⟩) hHeld ?_
                    simp only [List.set_cons_zero, List.set_cons_succ]
                    refine wpAnyH_ready (rs := [17]) (by kernel_rfl) (by simp) (AllReadyH.cons rfl (fun K hK => ?_) AllReadyH.nil)
                    go_simp
                    obtain ⟨C1, hC1⟩ : ∃ W, W = (B2.setCell ⟨gl, j, none⟩ (.int .i64 qx)).drew := ⟨_, rfl⟩
                    have HL3 : Hid (IB C1 gl (upd L1 j qx) xs.length) := mkHid (by rw [hC1]; exact (HL2.out.set hlt qx).drew)
                    have HE3 : Hid (IB C1 ge E1 xs.length) := mkHid (by rw [hC1]; exact (HE2.out.other HG.out.2.2.2.1 _ _).drew)
                    have HX3 : Hid (IB C1 gx X1 xs.length) := mkHid (by rw [hC1]; exact (HX2.out.other HG.out.2.2.2.2.1 _ _).drew)
                    have HB3 : Hid (Below w.heap.size w C1) := mkHid (by rw [hC1]; exact (HB2.out.setCell HG.out.1 _).drew)
                    have m0 : C1.cell? ⟨pb, 0, none⟩ = some (.int .i64 kk) := by rw [hC1]; exact (show (B2.setCell ⟨gl, j, none⟩ (.int .i64 qx)).cell? _ = _ from (cell_set_ne HPB.out.1).trans k0)
                    have m1 : C1.cell? ⟨pb, 1, none⟩ = some (.int .i64 qx) := by rw [hC1]; exact (show (B2.setCell ⟨gl, j, none⟩ (.int .i64 qx)).cell? _ = _ from (cell_set_ne HPB.out.1).trans k1)
                    have m2 : C1.cell? ⟨pb, 2, none⟩ = some (.int .i64 tt) := by rw [hC1]; exact (show (B2.setCell ⟨gl, j, none⟩ (.int .i64 qx)).cell? _ = _ from (cell_set_ne HPB.out.1).trans k2)
                    try rw [← hC1]
                    clear hC1
                    refine hK.out _ _ ⟨m0, m1, m2⟩ (fun hHeld => ?_)
                    clear hK K k0 k1 k2 dl fl HL2 HE2 HX2 HB2
                    (try simp only [Act.put])
                    refine takeD 18 100 (.pointer (some ⟨ge, j, none⟩)) rfl rfl (by kernel_rfl) (by kernel_rfl) (by kernel_rfl) (fun _ _ _ h => h) (Or.inl ⟨by kernel_rfl, by intro w hSw; (try dsimp only at hSw); go_simp⟩) hHeld ?_
                    simp only [List.set_cons_zero, List.set_cons_succ]
                    have de3 := HE3.out.cell hlt
                    rw [HEJ.out] at de3
                    have fe3 := HE3.out.frozen (i := j)
                    refine wpAnyH_ready (rs := [19]) (by kernel_rfl) (by simp) (AllReadyH.cons rfl (fun K hK => ?_) AllReadyH.nil)
                    go_simp
                    obtain ⟨C2, hC2⟩ : ∃ W, W = C1.setCell ⟨ge, j, none⟩ (.int .i64 (N + tt)) := ⟨_, rfl⟩
                    have HL4 : Hid (IB C2 gl (upd L1 j qx) xs.length) := mkHid (by rw [hC2]; exact HL3.out.other (Ne.symm HG.out.2.2.2.1) _ _)
                    have HE4 : Hid (IB C2 ge (upd E1 j (N + tt)) xs.length) := mkHid (by rw [hC2]; exact HE3.out.set hlt _)
                    have HX4 : Hid (IB C2 gx X1 xs.length) := mkHid (by rw [hC2]; exact HX3.out.other HG.out.2.2.2.2.2 _ _)
                    have HB4 : Hid (Below w.heap.size w C2) := mkHid (by rw [hC2]; exact HB3.out.setCell HG.out.2.1 _)
                    have p0 : C2.cell? ⟨pb, 0, none⟩ = some (.int .i64 kk) := by rw [hC2]; exact (cell_set_ne HPB.out.2.1).trans m0
                    have p1 : C2.cell? ⟨pb, 1, none⟩ = some (.int .i64 qx) := by rw [hC2]; exact (cell_set_ne HPB.out.2.1).trans m1
                    have p2 : C2.cell? ⟨pb, 2, none⟩ = some (.int .i64 tt) := by rw [hC2]; exact (cell_set_ne HPB.out.2.1).trans m2
                    try rw [← hC2]
                    clear hC2
                    refine hK.out _ _ ⟨p0, p1, p2⟩ (fun hHeld => ?_)
                    clear hK K m0 m1 m2 HL3 HE3 HX3 HB3 de de3 fe fe3
                    (try simp only [Act.put])
                    refine takeD 20 101 (.pointer (some ⟨gx, j, none⟩)) rfl rfl (by kernel_rfl) (by kernel_rfl) (by kernel_rfl) (fun _ _ _ h => h) (Or.inl ⟨by kernel_rfl, by intro w hSw; (try dsimp only at hSw); go_simp⟩) hHeld ?_
                    simp only [List.set_cons_zero, List.set_cons_succ]
                    have dx4 := HX4.out.cell hlt
                    rw [HXJ.out] at dx4
                    have fx4 := HX4.out.frozen (i := j)
                    refine wpAnyH_ready (rs := [21]) (by kernel_rfl) (by simp) (AllReadyH.cons rfl (fun K hK => ?_) AllReadyH.nil)
                    go_simp
                    obtain ⟨C3, hC3⟩ : ∃ W, W = C2.setCell ⟨gx, j, none⟩ (.int .i64 (N + tt)) := ⟨_, rfl⟩
                    have HL5 : Hid (IB C3 gl (upd L1 j qx) xs.length) := mkHid (by rw [hC3]; exact HL4.out.other (Ne.symm HG.out.2.2.2.2.1) _ _)
                    have HE5 : Hid (IB C3 ge (upd E1 j (N + tt)) xs.length) := mkHid (by rw [hC3]; exact HE4.out.other (Ne.symm HG.out.2.2.2.2.2) _ _)
                    have HX5 : Hid (IB C3 gx (upd X1 j (N + tt)) xs.length) := mkHid (by rw [hC3]; exact HX4.out.set hlt _)
                    have HB5 : Hid (Below w.heap.size w C3) := mkHid (by rw [hC3]; exact HB4.out.setCell HG.out.2.2.1 _)
                    have r0 : C3.cell? ⟨pb, 0, none⟩ = some (.int .i64 kk) := by rw [hC3]; exact (cell_set_ne HPB.out.2.2).trans p0
                    have r1 : C3.cell? ⟨pb, 1, none⟩ = some (.int .i64 qx) := by rw [hC3]; exact (cell_set_ne HPB.out.2.2).trans p1
                    have r2 : C3.cell? ⟨pb, 2, none⟩ = some (.int .i64 tt) := by rw [hC3]; exact (cell_set_ne HPB.out.2.2).trans p2
                    try rw [← hC3]
                    clear hC3
                    refine hK.out _ _ ⟨r0, r1, r2⟩ (fun hHeld => ?_)
                    clear hK K p0 p1 p2 HL4 HE4 HX4 HB4 dx dx4 fx fx4 hHeld r0 r1 r2
                    refine wpAnyH_done (by kernel_rfl) ?_ _
                    have HBE2 : Hid (Best (upd L1 j qx) (upd E1 j (N + tt)) j bi) := mkHid (best_kept HBE.out qx (N + tt))
                    have HOT2 : Hid (∀ i, j + 1 ≤ i → i < xs.length → 0 < upd L1 j qx i → N < upd E1 j (N + tt) i) := mkHid (fun i a b c => by
                      rw [upd_ne _ _ (by omega)] at c ⊢
                      exact HOT.out i (by omega) b c)
                    have HLJ2 : Hid (upd L1 j qx j = qx) := mkHid (upd_at _ _ _)
                    have HEJ2 : Hid (upd E1 j (N + tt) j = N + tt) := mkHid (upd_at _ _ _)
                    have HXJ2 : Hid (upd X1 j (N + tt) j = N + tt) := mkHid (upd_at _ _ _)
                    have HLZ := mkHid HLJ.out
                    have HXZ : Hid (X1 j ≤ N) := mkHid (by rw [HXJ.out]; exact hxN)
                    clear HLJ HEJ HXJ HOT HBE
                    have HLJ := HLJ2
                    have HEJ := HEJ2
                    clear HLJ2 HEJ2
                    have dl := HL5.out.cell hlt
                    have de := HE5.out.cell hlt
                    rw [HLJ.out] at dl
                    rw [HEJ.out] at de
                    have q0 : 0 < qx := by omega
                    by_cases hw0 : (0 : Int) < ws.length
                    · as_aux_lemma =>
                      obtain ⟨m, hm1, hm2⟩ : ∃ m : Nat, T1.tmod ws.length = (m : Int) ∧ m < ws.length := by
                        refine ⟨(T1.tmod ws.length).toNat, ?_, ?_⟩
                        · have := Int.tmod_nonneg (ws.length : Int) t10; omega
                        · have h1 := Int.tmod_nonneg (ws.length : Int) t10
                          have h2 := Int.tmod_lt_of_pos T1 hw0
                          omega
                      obtain ⟨ab, aoff, av, hae, hav, ca⟩ := HAW.out.at HB5.out m hm2
                      subst hae
                      obtain ⟨av0, av1⟩ := HWS.out av (List.mem_of_getElem? hav)
                      have hmi : (m : Int) < ws.length := by omega
                      have ewm : IntKind.i64.wrap (m : Int) = (m : Int) := wfit (by omega) (by omega)
                      have ewv : IntKind.i64.wrap (N + tt + av) = N + tt + av := wfit (by omega) (by omega)
                      have ewt : IntKind.i64.wrap (T1 + 1) = T1 + 1 := wfit (by omega) (by omega)
                      have hwz : ¬ (ws.length : Int) = 0 := by omega
                      have cx := HX5.out.cell hlt
                      rw [HXJ2.out] at cx
                      have fx := HX5.out.frozen (i := j)
                      clear hav
                      go_wp2
                      have hwn : ¬ ws = [] := fun e => by rw [e] at hw0; simp at hw0
                      have hT : (fun w' : World => w'.cell? ⟨gx, j, none⟩ = some (.int .i64 (N + tt)) ∧ w'.cell? ⟨ab, aoff + m, none⟩ = some (.int .i64 av)) C3.drew := ⟨cx, ca⟩
                      refine wp_region_till (fun w' => w'.cell? ⟨gx, j, none⟩ = some (.int .i64 (N + tt)) ∧ w'.cell? ⟨ab, aoff + m, none⟩ = some (.int .i64 av)) 13 (by kernel_rfl) ?_
                      refine freeD 0 105 (.slice (some ⟨gx, 0, none⟩) xs.length xs.length) rfl rfl (by kernel_rfl) (by kernel_rfl) (by kernel_rfl) (by decide) (fun _ _ _ h => h) (fun _ => hT) (Or.inl ⟨by kernel_rfl, by intro w _; go_simp⟩) ?_
                      simp only [List.set_cons_zero, List.set_cons_succ]
                      refine freeD 1 106 (.int .i64 (j : Int)) rfl rfl (by kernel_rfl) (by kernel_rfl) (by kernel_rfl) (by decide) (fun _ _ _ h => h) (fun _ => hT) (Or.inl ⟨by kernel_rfl, by intro w _; go_simp⟩) ?_
                      simp only [List.set_cons_zero, List.set_cons_succ]
                      refine freeD 2 107 (.pointer (some ⟨gx, j, none⟩)) rfl rfl (by kernel_rfl) (by kernel_rfl) (by kernel_rfl) (by decide) (fun _ _ _ h => h) (fun _ => hT) (Or.inl ⟨by kernel_rfl, by intro w _; go_simp⟩) ?_
                      simp only [List.set_cons_zero, List.set_cons_succ]
                      refine firstD 3 108 (.int .i64 (N + tt)) rfl rfl (by kernel_rfl) (by kernel_rfl) (by kernel_rfl) (by kernel_rfl) (by decide) (by kernel_rfl) (fun _ _ _ h => h) (Or.inl ⟨by kernel_rfl, by intro w hSw; (try dsimp only at hSw); go_simp⟩) hT ?_
                      simp only [List.set_cons_zero, List.set_cons_succ]
                      refine freeD 4 109 (.slice (some ⟨ab, aoff, none⟩) ws.length cw) rfl rfl (by kernel_rfl) (by kernel_rfl) (by kernel_rfl) (by decide) (fun _ _ _ h => h) (fun _ => hT) (Or.inl ⟨by kernel_rfl, by intro w _; go_simp⟩) ?_
                      simp only [List.set_cons_zero, List.set_cons_succ]
                      refine freeD 5 110 (.int .i64 T1) rfl rfl (by kernel_rfl) (by kernel_rfl) (by kernel_rfl) (by decide) (fun _ _ _ h => h) (fun _ => hT) (Or.inl ⟨by kernel_rfl, by intro w _; go_simp⟩) ?_
                      simp only [List.set_cons_zero, List.set_cons_succ]
                      refine freeD 6 111 (.slice (some ⟨ab, aoff, none⟩) ws.length cw) rfl rfl (by kernel_rfl) (by kernel_rfl) (by kernel_rfl) (by decide) (fun _ _ _ h => h) (fun _ => hT) (Or.inl ⟨by kernel_rfl, by intro w _; go_simp⟩) ?_
                      simp only [List.set_cons_zero, List.set_cons_succ]
                      refine freeD 7 112 (.int .i64 (ws.length : Int)) rfl rfl (by kernel_rfl) (by kernel_rfl) (by kernel_rfl) (by decide) (fun _ _ _ h => h) (fun _ => hT) (Or.inl ⟨by kernel_rfl, by intro w _; go_simp⟩) ?_
                      simp only [List.set_cons_zero, List.set_cons_succ]
                      refine freeD 8 113 (.int .i64 (m : Int)) rfl rfl (by kernel_rfl) (by kernel_rfl) (by kernel_rfl) (by decide) (fun _ _ _ h => h) (fun _ => hT) (Or.inl ⟨by kernel_rfl, by intro w _; go_simp⟩) ?_
                      simp only [List.set_cons_zero, List.set_cons_succ]
                      refine freeD 9 114 (.pointer (some ⟨ab, aoff + m, none⟩)) rfl rfl (by kernel_rfl) (by kernel_rfl) (by kernel_rfl) (by decide) (fun _ _ _ h => h) (fun _ => hT) (Or.inl ⟨by kernel_rfl, by intro w _; go_simp⟩) ?_
                      simp only [List.set_cons_zero, List.set_cons_succ]
                      refine firstD 10 115 (.int .i64 av) rfl rfl (by kernel_rfl) (by kernel_rfl) (by kernel_rfl) (by kernel_rfl) (by decide) (by kernel_rfl) (fun _ _ _ h => h) (Or.inl ⟨by kernel_rfl, by intro w hSw; (try dsimp only at hSw); go_simp⟩) hT ?_
                      simp only [List.set_cons_zero, List.set_cons_succ]
                      refine freeD 11 116 (.int .i64 (N + tt + av)) rfl rfl (by kernel_rfl) (by kernel_rfl) (by kernel_rfl) (by decide) (fun _ _ _ h => h) (fun _ => hT) (Or.inl ⟨by kernel_rfl, by intro w _; go_simp⟩) ?_
                      simp only [List.set_cons_zero, List.set_cons_succ]
                      refine freeD 12 117 (.pointer (some ⟨gx, j, none⟩)) rfl rfl (by kernel_rfl) (by kernel_rfl) (by kernel_rfl) (by decide) (fun _ _ _ h => h) (fun _ => hT) (Or.inl ⟨by kernel_rfl, by intro w _; go_simp⟩) ?_
                      simp only [List.set_cons_zero, List.set_cons_succ]
                      refine wpT_ready (rs := [13]) (by kernel_rfl) (by simp) (AllT.cons rfl (fun K hK => ?_) AllT.nil)
                      go_simp
                      obtain ⟨C4, hC4⟩ : ∃ W, W = (C3.setCell ⟨gx, j, none⟩ (.int .i64 (N + tt + av))).drew := ⟨_, rfl⟩
                      have HL6 : Hid (IB C4 gl (upd L1 j qx) xs.length) := mkHid (by rw [hC4]; exact (HL5.out.other (Ne.symm HG.out.2.2.2.2.1) _ _).drew)
                      have HE6 : Hid (IB C4 ge (upd E1 j (N + tt)) xs.length) := mkHid (by rw [hC4]; exact (HE5.out.other (Ne.symm HG.out.2.2.2.2.2) _ _).drew)
                      have HX6 : Hid (IB C4 gx (upd X1 j (N + tt + av)) xs.length) := mkHid (by rw [hC4, ← upd_upd X1 j (N + tt) (N + tt + av)]; exact (HX5.out.set hlt _).drew)
                      have HB6 : Hid (Below w.heap.size w C4) := mkHid (by rw [hC4]; exact (HB5.out.setCell HG.out.2.2.1 _).drew)
                      try rw [← hC4]
                      clear hC4 hT
                      refine hK.out _ _ (bool_no (by kernel_rfl)) ?_
                      clear hK K HL5 HE5 HX5 HB5 cx fx ca dl de
                      refine wpT_done (by kernel_rfl) ?_ _
                      have dl := HL6.out.cell hlt
                      have de := HE6.out.cell hlt
                      rw [HLJ.out] at dl
                      rw [HEJ.out] at de
                      have HMID2 : Hid (Mid xs Q T d N B1 (upd L1 j qx) (upd E1 j (N + tt)) (upd X1 j (N + tt + av))) := mkHid (by have h := mid_release (v := av) HK.out N0 hlt HMID.out HLZ.out HXZ.out av0 av1; rw [HE1.out.1, HE1.out.2] at h; exact h)
                      go_wp2
                      have hbs : bi < 0 ∨ (∃ k : Nat, bi = k ∧ k < xs.length) := by
                        rcases HBE2.out with ⟨h, _⟩ | ⟨k, h, h1, _⟩
                        · left; omega
                        · right; exact ⟨k, h, by omega⟩
                      rcases hbs with hb0 | ⟨kb, hkb, hkl⟩
                      · as_aux_lemma =>
                        have HB28 := mkHid (show bi < 0 from hb0)
                        go_quiet (fail)
                        go_wp2
                        go_roundw
                        case rel => exact ⟨j + 1, (T1 + 1), (j : Int), _, _, _, by go_num, by go_num, by go_num, by omega, (by omega), (by omega), by omega, by omega, HMID2, mkHid (best_new HBE2.out (by rw [HLJ.out]; omega) (.inl HB28.out)), mkHid (fun i a b c => HOT2.out i (by omega) b c), HL6, HE6, HX6, (mkHid (bdN HB6.out _))⟩
                        case measure => simp [intOf]; omega
                      · as_aux_lemma =>
                        subst hkb
                        have hkli : (kb : Int) < xs.length := by omega
                        have ck := HE6.out.cell hkl
                        obtain ⟨ek, hek⟩ : ∃ e, (upd E1 j (N + tt)) kb = e := ⟨_, rfl⟩
                        rw [hek] at ck
                        have HEK := mkHid hek
                        clear hek
                        by_cases hee : (N + tt) < ek
                        · as_aux_lemma =>
                          go_quiet (fail)
                          go_wp2
                          go_roundw
                          case rel => exact ⟨j + 1, (T1 + 1), (j : Int), _, _, _, by go_num, by go_num, by go_num, by omega, (by omega), (by omega), by omega, by omega, HMID2, mkHid (best_new HBE2.out (by rw [HLJ.out]; omega) (.inr (fun k e => by obtain rfl : kb = k := (by omega); rw [HEJ.out, HEK.out]; exact hee))), mkHid (fun i a b c => HOT2.out i (by omega) b c), HL6, HE6, HX6, (mkHid (bdN HB6.out _))⟩
                          case measure => simp [intOf]; omega
                        · as_aux_lemma =>
                          go_quiet (fail)
                          go_wp2
                          go_roundw
                          case rel => exact ⟨j + 1, (T1 + 1), (kb : Int), _, _, _, by go_num, by go_num, by go_num, by omega, (by omega), (by omega), by omega, by omega, HMID2, mkHid (best_old HBE2.out (by rw [HEJ.out, HEK.out]; omega)), mkHid (fun i a b c => HOT2.out i (by omega) b c), HL6, HE6, HX6, (mkHid (bdN HB6.out _))⟩
                          case measure => simp [intOf]; omega
                    · as_aux_lemma =>
                      have HMID2 : Hid (Mid xs Q T d N B1 (upd L1 j qx) (upd E1 j (N + tt)) (upd X1 j (N + tt))) := mkHid (by have h := mid_release (v := 0) HK.out N0 hlt HMID.out HLZ.out HXZ.out (by omega) (by omega); rw [HE1.out.1, HE1.out.2] at h; rw [Int.add_zero] at h; exact h)
                      go_wp2
                      have hbs : bi < 0 ∨ (∃ k : Nat, bi = k ∧ k < xs.length) := by
                        rcases HBE2.out with ⟨h, _⟩ | ⟨k, h, h1, _⟩
                        · left; omega
                        · right; exact ⟨k, h, by omega⟩
                      rcases hbs with hb0 | ⟨kb, hkb, hkl⟩
                      · as_aux_lemma =>
                        have HB28 := mkHid (show bi < 0 from hb0)
                        go_quiet (fail)
                        go_wp2
                        go_roundw
                        case rel => exact ⟨j + 1, T1, (j : Int), _, _, _, by go_num, by go_num, by go_num, by omega, t10, (by omega), by omega, by omega, HMID2, mkHid (best_new HBE2.out (by rw [HLJ.out]; omega) (.inl HB28.out)), mkHid (fun i a b c => HOT2.out i (by omega) b c), HL5, HE5, HX5, (mkHid (bdN HB5.out _))⟩
                        case measure => simp [intOf]; omega
                      · as_aux_lemma =>
                        subst hkb
                        have hkli : (kb : Int) < xs.length := by omega
                        have ck := HE5.out.cell hkl
                        obtain ⟨ek, hek⟩ : ∃ e, (upd E1 j (N + tt)) kb = e := ⟨_, rfl⟩
                        rw [hek] at ck
                        have HEK := mkHid hek
                        clear hek
                        by_cases hee : (N + tt) < ek
                        · as_aux_lemma =>
                          go_quiet (fail)
                          go_wp2
                          go_roundw
                          case rel => exact ⟨j + 1, T1, (j : Int), _, _, _, by go_num, by go_num, by go_num, by omega, t10, (by omega), by omega, by omega, HMID2, mkHid (best_new HBE2.out (by rw [HLJ.out]; omega) (.inr (fun k e => by obtain rfl : kb = k := (by omega); rw [HEJ.out, HEK.out]; exact hee))), mkHid (fun i a b c => HOT2.out i (by omega) b c), HL5, HE5, HX5, (mkHid (bdN HB5.out _))⟩
                          case measure => simp [intOf]; omega
                        · as_aux_lemma =>
                          go_quiet (fail)
                          go_wp2
                          go_roundw
                          case rel => exact ⟨j + 1, T1, (kb : Int), _, _, _, by go_num, by go_num, by go_num, by omega, t10, (by omega), by omega, by omega, HMID2, mkHid (best_old HBE2.out (by rw [HEJ.out, HEK.out]; omega)), mkHid (fun i a b c => HOT2.out i (by omega) b c), HL5, HE5, HX5, (mkHid (bdN HB5.out _))⟩
                          case measure => simp [intOf]; omega
                  · as_aux_lemma =>
                    go_wp2
                    rw [← HBX.out]
                    have dl := HL2.out.cell hlt
                    have de := HE2.out.cell hlt
                    have dx := HX2.out.cell hlt
                    rw [HLJ.out] at dl
                    rw [HEJ.out] at de
                    rw [HXJ.out] at dx
                    clear cl ce cx HL HE HX HB HBX c0 c1 c2
                    go_quiet (fail)
                    go_wp2
                    go_roundw
                    case rel => exact ⟨j + 1, T1, bi, _, _, _, by go_num, by go_num, by go_num, by omega, t10, by omega, by omega, by omega, HMID, mkHid (best_none HBE.out HLJ.out), mkHid (fun i a b c => HOT.out i (by omega) b c), HL2, HE2, HX2, mkHid (bdN HB2.out _)⟩
                    case measure => simp [intOf]; omega
              · as_aux_lemma =>
                obtain rfl : j = xs.length := by omega
                have hbe := HBE.out
                have hmid := HMID.out
                by_cases hb0 : bi < 0
                · as_aux_lemma =>
                  obtain rfl : bi = -1 := by omega
                  have HTK2 := mkHid (tick_idle N0 mm0 mm1 hmid hbe)
                  clear hbe hmid
                  go_wp2
                  go_roundw
                  case rel => exact ⟨T1, _, M, N + 1, L1, E1, X1, by go_num, by go_num, by go_num, by go_num, by omega, by omega, t10, by omega, HTK2, HL, HE, HX, HB⟩
                  case measure => simp [intOf]; omega
                · as_aux_lemma =>
                  obtain ⟨kb, rfl⟩ := Int.eq_ofNat_of_zero_le (show 0 ≤ bi by omega)
                  obtain ⟨htk, hkl, hlk⟩ := tick_run N0 mm0 mm1 hmid hbe
                  have HTK2 := mkHid htk
                  have hkli : (kb : Int) < xs.length := by omega
                  have ck := HL.out.cell hkl
                  have fk := HL.out.frozen (i := kb)
                  obtain ⟨jq1, jq2, _⟩ := hmid.jobs kb hkl
                  have hqq := HQ.out kb hkl
                  obtain ⟨lk, hlk2⟩ : ∃ l, L1 kb = l := ⟨_, rfl⟩
                  rw [hlk2] at ck hlk HTK2 jq1 jq2
                  have HLK := mkHid hlk2
                  have ewl : IntKind.i64.wrap (lk - 1) = lk - 1 := wfit (by omega) (by omega)
                  have ewb : IntKind.i64.wrap (B1 + 1) = B1 + 1 := wfit (by omega) (by omega)
                  have HL2 : Hid (IB (wr.setCell ⟨gl, kb, none⟩ (.int .i64 (lk - 1))) gl (upd L1 kb (lk - 1)) xs.length) := mkHid (HL.out.set hkl _)
                  have HE2 : Hid (IB (wr.setCell ⟨gl, kb, none⟩ (.int .i64 (lk - 1))) ge E1 xs.length) := mkHid (HE.out.other HG.out.2.2.2.1 _ _)
                  have HX2 : Hid (IB (wr.setCell ⟨gl, kb, none⟩ (.int .i64 (lk - 1))) gx X1 xs.length) := mkHid (HX.out.other HG.out.2.2.2.2.1 _ _)
                  have HB2 : Hid (Below w.heap.size w (wr.setCell ⟨gl, kb, none⟩ (.int .i64 (lk - 1)))) := mkHid (HB.out.setCell HG.out.1 _)
                  clear hbe hmid htk hlk2
                  go_wp2
                  go_roundw
                  case rel => exact ⟨T1, B1 + 1, max M (B1 + 1), N + 1, _, E1, X1, by go_num, by go_num, by go_num, by go_num, by omega, by omega, t10, by omega, HTK2, HL2, HE2, HX2, HB2⟩
                  case measure => simp [intOf]; omega
    · as_aux_lemma =>
      have HM1 := mkHid mm1
      obtain rfl : N = 1500 := by omega
      go_wp2
      go_ret2
      exact ⟨M, rfl, HM1.out, HB.out⟩
end Go.Proofs.YtnmmphnaelpjdaaDoor
