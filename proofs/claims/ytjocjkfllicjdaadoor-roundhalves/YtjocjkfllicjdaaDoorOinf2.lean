/- The document's InForm, of orders that bind; of all. -/
import Derived.Test.YtjocjkfllicjdaaDoorOinf
namespace Go.Proofs.YtjocjkfllicjdaaDoor
open Go.ChangeShapes Go.WideShapes Go.ChangeAt Go.RowKit
set_option maxRecDepth 100000
attribute [local go_sem] World.cell?_alloc_some frozen_alloc_some

theorem three_facts {w w' : World} {o1 o2 o3 : Obj} (hb : Below (((w.alloc o1).alloc o2).alloc o3).drew.heap.size (((w.alloc o1).alloc o2).alloc o3).drew w') : w'.heap[w.heap.size + 1]? = some o2 ∧ w'.heap[w.heap.size + 1 + 1]? = some o3 := by
  rw [hb.block _ (by show _ < (((w.alloc o1).alloc o2).alloc o3).heap.size; simp), hb.block _ (by show _ < (((w.alloc o1).alloc o2).alloc o3).heap.size; simp)]
  constructor
  · show (((w.alloc o1).alloc o2).alloc o3).heap[w.heap.size + 1]? = some o2
    rw [heap_alloc_old _ _ (by simp)]
    exact two_of_two w o1 o2
  · have := two_of_two (w.alloc o1) o2 o3
    rw [show (w.alloc o1).heap.size = w.heap.size + 1 by simp] at this
    exact this
theorem ord_cells {w : World} {b : Nat} {c0 c1 c2 c3 c4 c5 c6 c7 : Value} (h : w.heap[b]? = some (.cells #[c0, c1, c2, c3, c4, c5, c6, c7] 26 (0, 0))) : w.cell? ⟨b, 0, none⟩ = some c0 ∧ w.cell? ⟨b, 1, none⟩ = some c1 ∧ w.cell? ⟨b, 2, none⟩ = some c2 ∧ w.cell? ⟨b, 3, none⟩ = some c3 ∧ w.cell? ⟨b, 4, none⟩ = some c4 ∧ w.cell? ⟨b, 5, none⟩ = some c5 ∧ w.cell? ⟨b, 6, none⟩ = some c6 ∧ w.cell? ⟨b, 7, none⟩ = some c7 :=
  ⟨cell_of_block h rfl, cell_of_block h rfl, cell_of_block h rfl, cell_of_block h rfl, cell_of_block h rfl, cell_of_block h rfl, cell_of_block h rfl, cell_of_block h rfl⟩
def gT (c : Bool) (xs : List Tk) : Bool := c && xs.all (fun x => okb x.1 && (okb x.2.1 && (okb x.2.2.1 && okb x.2.2.2)))
theorem gT_take {c : Bool} {xs : List Tk} {j : Nat} {x : Tk} (hx : xs[j]? = some x) : gT c (xs.take (j + 1)) = (gT c (xs.take j) && (okb x.1 && (okb x.2.1 && (okb x.2.2.1 && okb x.2.2.2)))) := by
  unfold gT
  rw [List.take_add_one, hx]
  simp [Bool.and_assoc]
theorem gT_iff {c : Bool} {xs : List Tk} : gT c xs = true ↔ c = true ∧ ∀ t ∈ xs, okT t := by
  unfold gT
  rw [Bool.and_eq_true, List.all_eq_true]
  simp only [Bool.and_eq_true, okb_iff, okT]
set_option maxHeartbeats 25600000 in
theorem inForm_bind (w : World) (t : Ep) (ht : EnW w t) (hh : headF t.1) (hk : t.1.ki = 4) : ∃ b : Bool, (b = true ↔ (amt t.1.po ∧ t.1.ts.length ≤ 8 ∧ ∀ x ∈ t.1.ts, okT x) ∧ t.1.sk = 0 ∧ t.1.sq = 0 ∧ t.1.st = 0) ∧ Calls Tryd.prog 24 #[vP t] w fun r w' => r = .returned (.bool b) ∧ Below w.heap.size w w' := by
  obtain ⟨⟨cl, nu, ki, di, sk, sq, st, po, xs, tm⟩, a, cap⟩ := t
  obtain ⟨u1, u2, u3, o1, o2, o3⟩ := hh
  simp only at hk u1 u2 u3 o1 o2 o3 ⊢
  have hl0 : (xs.length : Int) ≤ 9223372036854775807 := by
    obtain ⟨_, _, _, h, _⟩ := ht
    exact h
  simp only [vP, vN, tv]
  obtain ⟨c, hc⟩ : ∃ c : Bool, c = (okb po && decide ((xs.length : Int) ≤ 8)) := ⟨_, rfl⟩
  obtain ⟨b, hb⟩ := ex_bool (gT c xs = true ∧ sk = 0 ∧ sq = 0 ∧ st = 0)
  refine ⟨b, ?_, ?_⟩
  · rw [hb, gT_iff, hc]
    simp only [Bool.and_eq_true, okb_iff, decide_eq_true_iff]
    constructor
    · rintro ⟨⟨⟨h1, h2⟩, h3⟩, h4⟩; exact ⟨⟨h1, by omega, h3⟩, h4⟩
    · rintro ⟨⟨h1, h2, h3⟩, h4⟩; exact ⟨⟨⟨h1, by omega⟩, h3⟩, h4⟩
  have HC := mkHid (fun W hbW => sameO_any W ⟨cl, nu, 4, di, sk, sq, st, po, xs, tm⟩ ⟨cl, nu, 4, di, 0, 0, 0, po, xs, tm⟩ a a cap cap (Tks.below ht hbW) (Tks.below ht hbW))
  have HBB : Hid (gT c xs = true → ∀ b', (b' = true ↔ oEq (⟨cl, nu, 4, di, sk, sq, st, po, xs, tm⟩ : En) ⟨cl, nu, 4, di, 0, 0, 0, po, xs, tm⟩) → b' = b) := mkHid (fun hg b' h' => by
    rw [Bool.eq_iff_iff, h', hb]
    simp only [oEq, oHead, Prod.mk.injEq]
    constructor
    · rintro ⟨⟨_, _, h0, _⟩, _⟩; exact ⟨hg, h0⟩
    · rintro ⟨_, rfl, rfl, rfl⟩; simp)
  have HBN : Hid (gT c xs = false → b = false) := mkHid (fun hg => by
    rw [← Bool.not_eq_true, hb, hg]; simp)
  have HS := mkHid ht
  clear ht hb
  subst hk
  obtain ⟨W, hW⟩ : ∃ W, W = (((w.alloc (.cells #[.int .i64 cl, .int .i64 nu, .int .i64 4, .int .i64 di, .int .i64 sk, .int .i64 sq, .int .i64 st, .int .i64 po, .slice a xs.length cap, .int .i64 tm] 28)).alloc (.cells #[.int .i64 4, .int .i64 di, .int .i64 sk, .int .i64 sq, .int .i64 st, .int .i64 po, .slice a xs.length cap, .int .i64 tm] 26)).alloc (.cells #[.int .i64 4, .int .i64 di, .int .i64 0, .int .i64 0, .int .i64 0, .int .i64 po, .slice a xs.length cap, .int .i64 tm] 26)).drew := ⟨_, rfl⟩
  go_enter Tryd.func24, Tryd.ntmps24
  go_wp2_with (go_at_call 47; refine (okd _ _).mono ?_; rintro r w1 ⟨rfl, rfl⟩; (try simp only [o1]); (try simp only [o2]); (try simp only [o3]))
  go_region
  rw [← hW]
  have hbW : Below w.heap.size w W := by rw [hW]; exact (ba (ba (ba (Below.refl _ w) _) _) _).drew
  have HX : Hid (∀ W', Below W.heap.size W W' → W'.heap[w.heap.size + 1]? = some (.cells #[.int .i64 4, .int .i64 di, .int .i64 sk, .int .i64 sq, .int .i64 st, .int .i64 po, .slice a xs.length cap, .int .i64 tm] 26 (0, 0)) ∧ W'.heap[w.heap.size + 1 + 1]? = some (.cells #[.int .i64 4, .int .i64 di, .int .i64 0, .int .i64 0, .int .i64 0, .int .i64 po, .slice a xs.length cap, .int .i64 tm] 26 (0, 0))) := mkHid (fun W' hb => by rw [hW] at hb; exact three_facts hb)
  obtain ⟨p0, p1, p2, p3, p4, p5, p6, p7⟩ := ord_cells (HX.out W (Below.refl _ _)).1
  have HBW := mkHid hbW
  have HCC := mkHid hc
  clear hW hbW
  have hd : (okb po = false ∧ c = false) ∨ (okb po = true ∧ c = false ∧ decide ((xs.length : Int) ≤ 8) = false ∧ ¬ (xs.length : Int) ≤ 8) ∨ (okb po = true ∧ c = true ∧ (xs.length : Int) ≤ 8) := by
    cases h1 : okb po
    · exact .inl ⟨rfl, by rw [hc, h1]; rfl⟩
    · by_cases h2 : (xs.length : Int) ≤ 8
      · exact .inr (.inr ⟨rfl, by rw [hc, h1]; simp [h2], h2⟩)
      · exact .inr (.inl ⟨rfl, by rw [hc, h1]; simp [h2], decide_eq_false h2, h2⟩)
  clear hc
  rcases hd with ⟨o7, hc0⟩ | ⟨o7, hc0, h8, h8'⟩ | ⟨o7, hc0, h8⟩
  all_goals
    go_wp2_with (go_at_call 47; refine (okd _ _).mono ?_; rintro r w1 ⟨rfl, hw1⟩; rw [hw1]; clear hw1; simp only [o7])
    clear p0 p1 p2 p3 p4 p5 p6 p7
    go_loopw [5, 94] (fun ov iv wr => ∃ j : Nat, ov = .bool (gT c (xs.take j)) ∧ iv = .int .i64 (j : Int) ∧ j ≤ xs.length ∧ Hid (Below W.heap.size W wr)) (fun _ iv _ => xs.length - (intOf iv).toNat)
    case atStart => exact ⟨0, by simp [gT, hc0], rfl, Nat.zero_le _, Below.refl _ _⟩
    case round =>
      obtain ⟨j, rfl, rfl, hj, HB⟩ := hrel
      clear hc0
      by_cases hlt : j < xs.length
      · obtain ⟨b0, off, x0, x1, x2, x3, rfl, hxj, c0, c1, c2, c3⟩ := Tks.at HS.out (bt HBW.out HB.out) j hlt
        have hji : (j : Int) < xs.length := by omega
        have HG := mkHid (gT_take (c := c) hxj)
        clear hxj
        obtain ⟨g, hgv⟩ : ∃ g, g = gT c (xs.take j) := ⟨_, rfl⟩
        rw [← hgv] at HG ⊢
        clear hgv
        obtain ⟨k0, hk0⟩ : ∃ k, k = okb x0 := ⟨_, rfl⟩
        obtain ⟨k1, hk1⟩ : ∃ k, k = okb x1 := ⟨_, rfl⟩
        obtain ⟨k2, hk2⟩ : ∃ k, k = okb x2 := ⟨_, rfl⟩
        obtain ⟨k3, hk3⟩ : ∃ k, k = okb x3 := ⟨_, rfl⟩
        simp only [← hk0, ← hk1, ← hk2, ← hk3] at HG
        have HR : Hid (∃ q, q = (g && (k0 && (k1 && (k2 && k3))))) := mkHid ⟨_, rfl⟩
        cases g
        · go_wp2
          go_roundw
          case rel => exact ⟨j + 1, by rw [HG.out]; rfl, by go_num, by omega, mkHid (ba HB.out _)⟩
          case measure => simp [intOf]; omega
        · have e0 := hk0.symm
          have e1 := hk1.symm
          have e2 := hk2.symm
          have e3 := hk3.symm
          clear hk0 hk1 hk2 hk3
          cases k0
          · go_wp2_with (go_at_call 47; refine (okd _ _).mono ?_; rintro r w1 ⟨rfl, rfl⟩; (try simp only [e0]); (try simp only [e1]); (try simp only [e2]); (try simp only [e3]))
            go_roundw
            case rel => exact ⟨j + 1, by rw [HG.out]; rfl, by go_num, by omega, mkHid (ba HB.out _)⟩
            case measure => simp [intOf]; omega
          · cases k1
            · go_wp2_with (go_at_call 47; refine (okd _ _).mono ?_; rintro r w1 ⟨rfl, rfl⟩; (try simp only [e0]); (try simp only [e1]); (try simp only [e2]); (try simp only [e3]))
              go_roundw
              case rel => exact ⟨j + 1, by rw [HG.out]; rfl, by go_num, by omega, mkHid (ba HB.out _)⟩
              case measure => simp [intOf]; omega
            · cases k2
              · go_wp2_with (go_at_call 47; refine (okd _ _).mono ?_; rintro r w1 ⟨rfl, rfl⟩; (try simp only [e0]); (try simp only [e1]); (try simp only [e2]); (try simp only [e3]))
                go_roundw
                case rel => exact ⟨j + 1, by rw [HG.out]; rfl, by go_num, by omega, mkHid (ba HB.out _)⟩
                case measure => simp [intOf]; omega
              · go_wp2_with (go_at_call 47; refine (okd _ _).mono ?_; rintro r w1 ⟨rfl, rfl⟩; (try simp only [e0]); (try simp only [e1]); (try simp only [e2]); (try simp only [e3]))
                go_roundw
                case rel => exact ⟨j + 1, by rw [HG.out]; rfl, by go_num, by omega, mkHid (ba HB.out _)⟩
                case measure => simp [intOf]; omega
      · obtain rfl : j = xs.length := by omega
        rw [List.take_of_length_le (Nat.le_refl _)]
        obtain ⟨g, hgv⟩ : ∃ g, g = gT c xs := ⟨_, rfl⟩
        rw [← hgv]
        have HG := mkHid hgv
        clear hgv
        obtain ⟨p0, p1, p2, p3, p4, p5, p6, p7⟩ := ord_cells (HX.out wr HB.out).1
        obtain ⟨q0, q1, q2, q3, q4, q5, q6, q7⟩ := ord_cells (HX.out wr HB.out).2
        cases g
        · go_wp2
          go_ret
          exact ⟨by rw [HBN.out HG.out.symm]; rfl, bt HBW.out HB.out⟩
        · go_wp2_with (go_at_call 48; obtain ⟨b', hb', hc'⟩ := HC.out wr (bt HBW.out HB.out); have hbe := HBB.out HG.out.symm b' hb'; subst hbe; refine hc'.mono ?_; rintro r w1 ⟨rfl, b1⟩; have HB1 := mkHid (bt (bt HBW.out HB.out) b1); clear b1 hc' hb')
          go_ret
          exact ⟨rfl, HB1.out⟩
theorem inForm_any (w : World) (t : Ep) (ht : EnW w t) : ∃ b : Bool, (b = true ↔ inF t.1) ∧ Calls Tryd.prog 24 #[vP t] w fun r w' => r = .returned (.bool b) ∧ Below w.heap.size w w' := by
  by_cases hh : headF t.1
  · obtain ⟨g0, g1, g2, g3, g4⟩ := headF_inF hh
    have hin : (kindF t.1 ∧ (amt t.1.sk ∧ amt t.1.sq ∧ amt t.1.st ∧ amt t.1.po) ∧ t.1.ts.length ≤ 8 ∧ ∀ x ∈ t.1.ts, okT x) ↔ inF t.1 := by
      constructor
      · rintro ⟨h1, ⟨h2, h3, h4, h5⟩, h6, h7⟩
        refine ⟨g0, ⟨h6, fun n hn => ?_, h7⟩, h1⟩
        simp only [hnum, List.mem_cons, List.not_mem_nil, or_false] at hn
        rcases hn with rfl | rfl | rfl | rfl | rfl | rfl | rfl | rfl | rfl
        · exact g1
        · exact g2
        · rcases h1 with ⟨e | e, _⟩ | ⟨e, _⟩ | ⟨e, _⟩ <;> rw [e] <;> exact ⟨by omega, by omega⟩
        · exact g3
        · exact g4
        · exact h2
        · exact h3
        · exact h4
        · exact h5
      · rintro ⟨_, ⟨h6, h8, h7⟩, h1⟩
        exact ⟨h1, ⟨h8 _ (by simp [hnum]), h8 _ (by simp [hnum]), h8 _ (by simp [hnum]), h8 _ (by simp [hnum])⟩, h6, h7⟩
    have z0 : amt 0 := ⟨by omega, by omega⟩
    by_cases k1 : t.1.ki = 1 ∨ t.1.ki = 2
    · obtain ⟨b, hb, hc⟩ := inForm_make w t ht hh k1
      refine ⟨b, ?_, hc⟩
      rw [hb, ← hin]
      constructor
      · rintro ⟨h1, h2, h3, h4, h5⟩
        exact ⟨.inl ⟨k1, h4, h5⟩, ⟨h1, h2, h3, by rw [h4]; exact z0⟩, by rw [h5]; simp, by rw [h5]; simp⟩
      · rintro ⟨h1, ⟨h2, h3, h4, _⟩, _⟩
        rcases h1 with ⟨_, e⟩ | ⟨e, _⟩ | ⟨e, _⟩
        · exact ⟨h2, h3, h4, e.1, e.2⟩
        · omega
        · omega
    · by_cases k3 : t.1.ki = 3
      · obtain ⟨b, hb, hc⟩ := inForm_drop w t ht hh k3
        refine ⟨b, ?_, hc⟩
        rw [hb, ← hin]
        constructor
        · rintro ⟨⟨h1, h2, h3⟩, h4, h5⟩
          exact ⟨.inr (.inl ⟨k3, ⟨h1, h2, h3⟩, h4, h5⟩), ⟨by rw [h1]; exact z0, by rw [h2]; exact z0, by rw [h3]; exact z0, by rw [h4]; exact z0⟩, by rw [h5]; simp, by rw [h5]; simp⟩
        · rintro ⟨h1, _⟩
          rcases h1 with ⟨e, _⟩ | ⟨_, e⟩ | ⟨e, _⟩
          · omega
          · exact e
          · omega
      · by_cases k4 : t.1.ki = 4
        · obtain ⟨b, hb, hc⟩ := inForm_bind w t ht hh k4
          refine ⟨b, ?_, hc⟩
          rw [hb, ← hin]
          constructor
          · rintro ⟨⟨h1, h2, h3⟩, h4, h5, h6⟩
            exact ⟨.inr (.inr ⟨k4, h4, h5, h6⟩), ⟨by rw [h4]; exact z0, by rw [h5]; exact z0, by rw [h6]; exact z0, h1⟩, h2, h3⟩
          · rintro ⟨h1, ⟨_, _, _, h5⟩, h6, h7⟩
            rcases h1 with ⟨e, _⟩ | ⟨e, _⟩ | ⟨_, e⟩
            · omega
            · omega
            · exact ⟨⟨h5, h6, h7⟩, e⟩
        · refine ⟨false, ?_, inForm_other w t hh (fun e => k1 (.inl e)) (fun e => k1 (.inr e)) k3 k4⟩
          rw [← hin]
          simp only [Bool.false_eq_true, false_iff]
          rintro ⟨h1, _⟩
          rcases h1 with ⟨e, _⟩ | ⟨e, _⟩ | ⟨e, _⟩
          · exact k1 e
          · exact k3 e
          · exact k4 e
  · exact ⟨false, by simp only [Bool.false_eq_true, false_iff]; exact fun h => hh (inF_headF h), inForm_head w t hh⟩
end Go.Proofs.YtjocjkfllicjdaaDoor
