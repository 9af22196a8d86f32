/- PlanCounts: Counts tells how often each server stands in a list. -/
import Derived.Test.YtgmkhhaieolndaaDoorCounts1
import Derived.Maps.RangeRun
import Derived.Laws.IdiomRangeMap
namespace Go.Proofs.YtgmkhhaieolndaaDoor
open Go.ChangeMaps Go.ChangeShapes Go.WideShapes Go.ChangeAt Go.RowKit
attribute [local go_sem] World.cell?_alloc_some frozen_alloc_some

theorem ents_born (L : List (Sv × Nat)) : ∀ i, ∀ x ∈ ents i L, i ≤ x.born ∧ x.born < i + L.length := by
  induction L with
  | nil => intro i x hx; simp [ents] at hx
  | cons y r ih =>
    intro i x hx
    simp only [ents, List.mem_cons] at hx
    rcases hx with rfl | hx
    · simp
    · have := ih (i + 1) x hx
      simp only [List.length_cons]
      omega
theorem ents_nodup (L : List (Sv × Nat)) : ∀ i, ((ents i L).map (·.born)).Nodup := by
  induction L with
  | nil => intro i; simp [ents]
  | cons y r ih =>
    intro i
    simp only [ents, List.map_cons, List.nodup_cons]
    refine ⟨fun hm => ?_, ih (i + 1)⟩
    obtain ⟨x, hx, e⟩ := List.mem_map.mp hm
    have := (ents_born r (i + 1) x hx).1
    omega
theorem ents_vals (L : List (Sv × Nat)) : ∀ i, ∀ x ∈ ents i L, ∃ v : Int, x.val = .int .i64 v := by
  induction L with
  | nil => intro i x hx; simp [ents] at hx
  | cons y r ih =>
    intro i x hx
    simp only [ents, List.mem_cons] at hx
    rcases hx with rfl | hx
    · exact ⟨_, rfl⟩
    · exact ih (i + 1) x hx
theorem ents_sum (L : List (Sv × Nat)) : ∀ i, ((ents i L).map fun e => valOf e.val).sum = (sumc L : Int) := by
  induction L with
  | nil => intro i; simp [ents, sumc]
  | cons y r ih =>
    intro i
    simp only [ents, List.map_cons, List.sum_cons]
    rw [ih]
    show (y.2 : Int) + _ = _
    simp [sumc]
theorem wrap_wrap (x v : Int) : wrap64 (wrap64 x + v) = wrap64 (x + v) := by unfold wrap64; omega
theorem setB_same {w : World} {r : Nat} {o0 : Obj} (hr : w.heap[r]? = some o0) (o : Obj) : (setBlock w r o).heap[r]? = some o := by
  have := (Array.getElem?_eq_some_iff.1 hr).1
  simp [setBlock, this]
theorem setB_other (w : World) {r k : Nat} (hk : k ≠ r) (o : Obj) : (setBlock w r o).heap[k]? = w.heap[k]? := by
  simp only [setBlock]
  exact Array.getElem?_setIfInBounds_ne (fun e => hk e.symm)
theorem below_setB {B : Nat} {w w' : World} (h : Below B w w') {r : Nat} (hB : B ≤ r) (o : Obj) : Below B w (setBlock w' r o) :=
  ⟨h.os, h.tape, h.output, by simp [setBlock]; exact h.size, fun k hk => by rw [setB_other w' (by omega) o]; exact h.block k hk⟩
theorem iter_of {w : World} {r : Nat} {a : Option Nat} {m n : Nat} {s : Array Nat} (h : w.heap[r]? = some (.mapIter a m s n)) : w.iterSeen r = s := by
  unfold World.iterSeen
  rw [h]
theorem count_take {xs : List Sv} {k : Nat} {x s : Sv} (hx : xs[k]? = some x) : (xs.take (k + 1)).count s = (xs.take k).count s + if x = s then 1 else 0 := by
  rw [List.take_add_one, hx, List.count_append]
  by_cases h : x = s
  · subst h; simp
  · have : List.count s (some x).toList = 0 := List.count_eq_zero.mpr (by simpa using fun e => h e.symm)
    rw [this, if_neg h]
theorem ne_cases {k q t k' q' t' : Int} (h : ¬ ((k', q', t') : Sv) = (k, q, t)) : (k' == k) = false ∨ (k' = k ∧ (q' == q) = false) ∨ (k' = k ∧ q' = q ∧ (t' == t) = false) := by
  by_cases e1 : k' = k
  · by_cases e2 : q' = q
    · by_cases e3 : t' = t
      · exact absurd (by rw [e1, e2, e3]) h
      · exact .inr (.inr ⟨e1, e2, by simpa using e3⟩)
    · exact .inr (.inl ⟨e1, by simpa using e2⟩)
  · exact .inl (by simpa using e1)
set_option maxHeartbeats 3200000 in
theorem pcounts_walk (W : World) (v : Value) (xs : List Sv) (a : Addr) (E : Err W 0 text0 a) (h : Svs W v xs) (hi : ∀ x ∈ xs, I3 x) :
    Calls Tryd.prog 5 #[v] W fun e w' => e = .returned (.bool true) ∧ Below W.heap.size W w' := by
  obtain ⟨av, cap, rfl, hl, h9⟩ := id h
  have HS := mkHid h
  have HI := mkHid hi
  have HE := mkHid E
  clear h h9 hi E
  obtain ⟨L, hL⟩ : ∃ L, L = cnts xs := ⟨_, rfl⟩
  have HSUM : Hid (sumc L = xs.length) := mkHid (by rw [hL]; exact sumc_cnts xs)
  have HGET : Hid (∀ s, getc L s = xs.count s) := mkHid (fun s => by rw [hL]; exact getc_cnts xs s)
  have HL := mkHid hL
  clear hL
  go_enter Tryd.func5, Tryd.ntmps5
  go_wp2_with (first
    | (go_at_call 8; refine (alive_is _ a HE.out).mono ?_; rintro e w1 ⟨rfl, b1⟩; have HB1 := mkHid b1; clear b1)
    | (go_at_call 20; refine (counts_is w1 _ xs (HS.out.below HB1.out) HI.out).mono ?_; rintro e w2 ⟨rfl, b2⟩; have hM := b2.out.1; have HB2 := mkHid (bt HB1.out b2.out.2); rw [← HL.out] at hM; have HM := mkHid hM; clear b2; obtain ⟨es, hb, he⟩ := hM; have hrg := run_range_map (P := Tryd.prog) w2 49 23 3 w1.heap.size es L.length Tryd.underlying49 hb; have HEs := mkHid (And.intro hb he); clear hb he))
  have hW1 : W.heap.size ≤ w1.heap.size := HB1.out.size
  have h12 : w1.heap.size < w2.heap.size := (Array.getElem?_eq_some_iff.1 HEs.out.1).1
  have HN : Hid (W.heap.size ≤ w1.heap.size ∧ w1.heap.size < w2.heap.size) := mkHid ⟨hW1, h12⟩
  clear hW1 h12 hrg
  generalize w1.heap.size = b at *
  generalize hr2 : w2.heap.size = r at *
  have HI0 : Hid ((w2.alloc (.mapIter (some b) L.length #[] L.length)).heap[r]? = some (.mapIter (some b) L.length #[] L.length)) := mkHid (by rw [← hr2]; exact heap_alloc_new w2 _)
  have HB0 : Hid ((w2.alloc (.mapIter (some b) L.length #[] L.length)).heap[b]? = some (.map es L.length)) := mkHid (by rw [heap_alloc_old w2 _ (by have := HN.out.2; omega)]; exact HEs.out.1)
  have HEb := HEs
  replace HEs := mkHid HEs.out.2
  have HC0 : Hid (Below W.heap.size W (w2.alloc (.mapIter (some b) L.length #[] L.length))) := mkHid (ba HB2.out _)
  clear HEb
  go_loopw [4] (fun sv wr => ∃ seen, sv = .int .i64 (wrap64 (seenSum es.toList seen)) ∧ Hid (wr.heap[r]? = some (.mapIter (some b) L.length seen L.length) ∧ wr.heap[b]? = some (.map es L.length) ∧ Below W.heap.size W wr)) (fun _ wr => (leftOf es (wr.iterSeen r)).size)
  case atStart => exact ⟨#[], by rw [seenSum_none]; simp [wrap64], HI0.out, HB0.out, HC0.out⟩
  case round =>
    obtain ⟨seen, rfl, HH⟩ := hrel
    clear HI0 HB0 HC0
    rcases run_next_at (P := Tryd.prog) wr 0 r b L.length L.length seen es L.length HH.out.1 HH.out.2.1 (fun x hx => by rw [HEs.out] at hx; have := (ents_born L 0 x hx).2; omega) (Nat.le_refl _) with ⟨h0, hrun⟩ | ⟨e, he, w3, hw3, hrun⟩
    · have hsum : wrap64 (seenSum es.toList seen) = (xs.length : Int) := by
        rw [seenSum_all es seen h0, HEs.out, ents_sum, HSUM.out]
        unfold wrap64
        omega
      rw [hsum]
      have hnx : ∀ ty, (Instr.next (.pointer (some ⟨r, 0, none⟩)) false ty).run Tryd.prog wr = _ := fun _ => hrun
      have HMc : Hid (Mc wr b L) := mkHid ⟨es, HH.out.2.1, HEs.out⟩
      have HBc : Hid (Below W.heap.size W wr) := mkHid HH.out.2.2
      clear hsum h0 hrun
      go_wp2
      clear hnx
      go_loopw [31] (fun iv wr => ∃ j : Nat, iv = .int .i64 (j : Int) ∧ j ≤ xs.length ∧ Hid (Mc wr b L ∧ Below W.heap.size W wr)) (fun iv _ => xs.length - (intOf iv).toNat)
      case atStart => exact ⟨0, rfl, Nat.zero_le _, mkHid ⟨HMc.out, HBc.out⟩⟩
      case round =>
        clear HMc HBc HH
        obtain ⟨j, rfl, hj, HH⟩ := hrel
        by_cases hlt : j < xs.length
        · obtain ⟨sb, so, k, q, t, rfl, hxj, c0, c1, c2⟩ := HS.out.at HH.out.2 j hlt
          have hji : (j : Int) < xs.length := by omega
          have HI3 := mkHid (HI.out _ (List.mem_of_getElem? hxj))
          by_cases h300 : (j : Int) ≤ 300
          · have HS3 : Hid (S3 (wr.alloc (oS (k, q, t))) wr.heap.size (k, q, t)) := mkHid (S3.new wr (k, q, t))
            have HM3 : Hid (Mc (wr.alloc (oS (k, q, t))) b L ∧ Below W.heap.size W (wr.alloc (oS (k, q, t)))) := mkHid ⟨HH.out.1.below (ba (Below.refl _ _) _), ba HH.out.2 _⟩
            clear hxj HH
            go_wp2
            generalize hbx : wr.heap.size = bx at *
            clear hbx
            go_loopw [9, 40] (fun nv iv wr => ∃ m : Nat, nv = .int .i64 (((xs.take m).count (k, q, t) : Nat) : Int) ∧ iv = .int .i64 (m : Int) ∧ m ≤ xs.length ∧ Hid (Mc wr b L ∧ Below W.heap.size W wr) ∧ Hid (S3 wr bx (k, q, t))) (fun _ iv _ => xs.length - (intOf iv).toNat)
            case atStart => exact ⟨0, by simp, rfl, Nat.zero_le _, HM3, HS3⟩
            case round =>
              clear HM3 HS3 c0 c1 c2
              obtain ⟨m, rfl, rfl, hm, HM3, HS3⟩ := hrel
              by_cases hmt : m < xs.length
              · obtain ⟨b', o', k', q', t', hbo, hxm, d0, d1, d2⟩ := HS.out.at HM3.out.2 m hmt
                simp only [Option.some.injEq, Addr.mk.injEq, and_true] at hbo
                obtain ⟨rfl, rfl⟩ := hbo
                obtain ⟨s0, s1, s2⟩ := id HS3.out
                have hmi : (m : Int) < xs.length := by omega
                have hct := count_take (s := (k, q, t)) hxm
                have hcl : (xs.take m).count (k, q, t) ≤ m := by have := List.count_le_length (a := (k, q, t)) (l := xs.take m); rw [List.length_take] at this; omega
                obtain ⟨n, hn⟩ : ∃ n, n = (xs.take m).count (k, q, t) := ⟨_, rfl⟩
                rw [← hn] at hct hcl ⊢
                have hni : (n : Int) ≤ m := by omega
                clear hn hxm hcl
                by_cases he : ((k', q', t') : Sv) = (k, q, t)
                · rw [if_pos he] at hct
                  simp only [Prod.mk.injEq] at he
                  obtain ⟨rfl, rfl, rfl⟩ := he
                  have HCT := mkHid hct
                  clear hct
                  go_wp2
                  go_roundw
                  case rel => exact ⟨m + 1, by rw [HCT.out]; go_num, by go_num, by omega, mkHid ⟨HM3.out.1.below (ba (Below.refl _ _) _), ba HM3.out.2 _⟩, mkHid (HS3.out.alloc _)⟩
                  case measure => simp [intOf]; omega
                · rw [if_neg he] at hct
                  have HCT := mkHid hct
                  have hc := ne_cases he
                  clear hct he
                  rcases hc with hk | ⟨rfl, hk⟩ | ⟨rfl, rfl, hk⟩
                  all_goals
                    go_wp2
                    go_roundw
                    case rel => exact ⟨m + 1, by rw [HCT.out]; rfl, by go_num, by omega, mkHid ⟨HM3.out.1.below (ba (Below.refl _ _) _), ba HM3.out.2 _⟩, mkHid (HS3.out.alloc _)⟩
                    case measure => simp [intOf]; omega
              · obtain rfl : m = xs.length := by omega
                rw [List.take_of_length_le (Nat.le_refl _)]
                have hg := HM3.out.1.get _ HI3.out
                rw [HGET.out] at hg
                generalize xs.count (k, q, t) = n at hg ⊢
                obtain ⟨s0, s1, s2⟩ := id HS3.out
                go_wp2
                go_roundw
                case rel => exact ⟨j + 1, by go_num, by omega, HM3⟩
                case measure => simp [intOf]; omega
          · have h301 : (300 : Int) < j := by omega
            go_wp2
            go_ret
            exact ⟨rfl, ba HH.out.2 _⟩
        · obtain rfl : j = xs.length := by omega
          go_wp2
          go_ret
          exact ⟨rfl, HH.out.2⟩
    · obtain ⟨v, hval⟩ : ∃ v : Int, e.val = .int .i64 v := ents_vals L 0 e (by rw [← HEs.out]; exact (mem_left he).1)
      rw [hval] at hrun
      have hnx : ∀ ty, (Instr.next (.pointer (some ⟨r, 0, none⟩)) false ty).run Tryd.prog wr = _ := fun _ => hrun
      have hr3 : w3.heap[r]? = some (.mapIter (some b) L.length seen L.length) := by rcases hw3 with rfl | rfl <;> exact HH.out.1
      have hb3 : w3.heap[b]? = some (.map es L.length) := by rcases hw3 with rfl | rfl <;> exact HH.out.2.1
      have hB3 : Below W.heap.size W w3 := by
        rcases hw3 with rfl | rfl
        · exact HH.out.2.2
        · exact HH.out.2.2.drew
      have hr4 := setB_same hr3 (.mapIter (some b) L.length (seen.push e.born) L.length)
      have hb4 := (setB_other w3 (show b ≠ r by have := HN.out.2; omega) (.mapIter (some b) L.length (seen.push e.born) L.length)).trans hb3
      have hen := run_entry_at (P := Tryd.prog) _ r b L.length seen es L.length e hr4 hb4 (mem_left he).1 (by rw [HEs.out]; exact ents_nodup L 0)
      rw [hval] at hen
      have hB4 : Below W.heap.size W (setBlock w3 r (.mapIter (some b) L.length (seen.push e.born) L.length)) := below_setB hB3 (by have := HN.out; omega) _
      generalize setBlock w3 r (.mapIter (some b) L.length (seen.push e.born) L.length) = w4 at *
      have HR : Hid (w4.heap[r]? = some (.mapIter (some b) L.length (seen.push e.born) L.length) ∧ w4.heap[b]? = some (.map es L.length) ∧ Below W.heap.size W w4) := mkHid ⟨hr4, hb4, hB4⟩
      have HSEEN : Hid (wr.iterSeen r = seen ∧ w4.iterSeen r = seen.push e.born ∧ (leftOf es (seen.push e.born)).size < (leftOf es seen).size) := mkHid ⟨iter_of HH.out.1, iter_of hr4, left_shrinks es seen e he⟩
      have HPS : Hid (seenSum es.toList (seen.push e.born) = seenSum es.toList seen + v) := mkHid (by rw [seenSum_push seen e (mem_left he).2 es.toList (by rw [HEs.out]; exact ents_nodup L 0) (mem_left he).1, hval]; rfl)
      clear hrun hw3 hr3 hb3 hB3 hr4 hb4 hB4 he hval
      generalize e.key = ek at *
      generalize seenSum es.toList seen = x at *
      go_wp2
      go_roundw
      case rel => exact ⟨seen.push e.born, by rw [HPS.out, wrap_wrap], HR⟩
      case measure => rw [HSEEN.out.1, HSEEN.out.2.1]; exact HSEEN.out.2.2
end Go.Proofs.YtgmkhhaieolndaaDoor
