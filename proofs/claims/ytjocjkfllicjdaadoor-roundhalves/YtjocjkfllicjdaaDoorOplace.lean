/- Places in a ledger: place, Place, the document's Place. -/
import Derived.Test.YtjocjkfllicjdaaDoorOforms1
import Derived.BigQuiet
namespace Go.Proofs.YtjocjkfllicjdaaDoor
open Go.ChangeShapes Go.WideShapes Go.ChangeAt Go.RowKit
set_option maxRecDepth 100000
attribute [local go_sem] World.cell?_alloc_some frozen_alloc_some

/-- An entry of this client and number. -/
def atP (c n : Int) (e : En) : Prop := e.cl = c ∧ e.nu = n
/-- The place of the first such entry, 0 if there is none. -/
def PlIs (l : List En) (c n : Int) (k : Nat) : Prop :=
  (k = 0 ∧ ∀ (i : Nat) (e : En), l[i]? = some e → ¬ atP c n e) ∨ (∃ (j : Nat) (e : En), k = j + 1 ∧ l[j]? = some e ∧ atP c n e ∧ ∀ (i : Nat) (x : En), i < j → l[i]? = some x → ¬ atP c n x)
theorem plis_ex (l : List En) (c n : Int) : ∃ k, PlIs l c n k := by
  induction l with
  | nil => exact ⟨0, .inl ⟨rfl, by simp⟩⟩
  | cons y l ih =>
    by_cases hy : atP c n y
    · exact ⟨1, .inr ⟨0, y, rfl, rfl, hy, fun i x hi => by omega⟩⟩
    · obtain ⟨k, ⟨rfl, h⟩ | ⟨j, e, rfl, he, hn, ha⟩⟩ := ih
      · refine ⟨0, .inl ⟨rfl, fun i e hx => ?_⟩⟩
        cases i with
        | zero => simp at hx; rw [← hx]; exact hy
        | succ i => exact h i e (by simpa using hx)
      · refine ⟨j + 1 + 1, .inr ⟨j + 1, e, rfl, by simpa using he, hn, fun i x hi hx => ?_⟩⟩
        cases i with
        | zero => simp at hx; rw [← hx]; exact hy
        | succ i => exact ha i x (by omega) (by simpa using hx)
theorem plis_one {l : List En} {c n : Int} {k m : Nat} (h : PlIs l c n k) (h' : PlIs l c n m) : k = m := by
  rcases h with ⟨rfl, h⟩ | ⟨j, e, rfl, he, hn, ha⟩
  · rcases h' with ⟨rfl, _⟩ | ⟨j', e', rfl, he', hn', _⟩
    · rfl
    · exact absurd hn' (h _ _ he')
  · rcases h' with ⟨rfl, h⟩ | ⟨j', e', rfl, he', hn', ha'⟩
    · exact absurd hn (h _ _ he)
    · rcases Nat.lt_trichotomy j j' with h1 | h1 | h1
      · exact absurd hn (ha' j e h1 he)
      · omega
      · exact absurd hn' (ha j' e' h1 he')
theorem PlIs.le {l : List En} {c n : Int} {k : Nat} (h : PlIs l c n k) : k ≤ l.length := by
  rcases h with ⟨rfl, _⟩ | ⟨j, e, rfl, he, _⟩
  · omega
  · have := (List.getElem?_eq_some_iff.mp he).1; omega
theorem fs1_at {ps : List Ep} {i : Nat} {t : Ep} (h : ps[i]? = some t) : (ps.map (·.1))[i]? = some t.1 := by rw [List.getElem?_map, h]; rfl
abbrev plFn (p q : Nat) : Value := .func (.func 65) #[] #[.pointer (some ⟨p, 0, none⟩), .pointer (some ⟨q, 0, none⟩)]
theorem pl1_any (w : World) (t : Ep) (p q : Nat) (c n : Int) (hp : w.cell? ⟨p, 0, none⟩ = some (.int .i64 c)) (hq : w.cell? ⟨q, 0, none⟩ = some (.int .i64 n)) : ∃ b : Bool, (b = true ↔ atP c n t.1) ∧ Calls Tryd.prog 65 #[vP t, .pointer (some ⟨p, 0, none⟩), .pointer (some ⟨q, 0, none⟩)] w fun r w' => r = .returned (.bool b) ∧ Below w.heap.size w w' := by
  obtain ⟨e, a, cap⟩ := t
  simp only [vP, vN, tv]
  unfold atP
  by_cases h1 : e.cl = c
  · by_cases h2 : e.nu = n
    · refine ⟨true, by simp [h1, h2], ?_⟩
      subst h1 h2
      go_enter Tryd.func65, Tryd.ntmps65
      go_wp2
      go_ret
      exact ⟨by simp, ba (Below.refl _ _) _⟩
    · refine ⟨false, by simp [h1, h2], ?_⟩
      subst h1
      have h2' : (e.nu == n) = false := by simpa using h2
      go_enter Tryd.func65, Tryd.ntmps65
      go_wp2
      go_ret
      exact ⟨by simp, ba (Below.refl _ _) _⟩
  · refine ⟨false, by simp [h1], ?_⟩
    have h1' : (e.cl == c) = false := by simpa using h1
    go_enter Tryd.func65, Tryd.ntmps65
    go_wp2
    go_ret
    exact ⟨by simp, ba (Below.refl _ _) _⟩
set_option maxHeartbeats 3200000 in
theorem idxPl (w : World) (v : Value) (ps : List Ep) (p q : Nat) (c n : Int) (k : Nat) (h : Ens w v ps) (hl : (ps.length : Int) ≤ 9223372036854775807) (hp : w.cell? ⟨p, 0, none⟩ = some (.int .i64 c)) (hq : w.cell? ⟨q, 0, none⟩ = some (.int .i64 n)) (hk : PlIs (ps.map (·.1)) c n k) :
    Calls Tryd.prog 64 #[v, plFn p q] w fun e w' => e = .returned (.int .i64 ((k : Int) - 1)) ∧ Below w.heap.size w w' := by
  obtain ⟨a, cap, rfl⟩ : ∃ a c, v = .slice a ps.length c := by obtain ⟨a, c, e, _⟩ := h; exact ⟨a, c, e⟩
  have HE := mkHid h
  have HK := mkHid hk
  have HP := mkHid (And.intro hp hq)
  clear h hk hp hq
  simp only [plFn]
  go_enter Tryd.func64, Tryd.ntmps64
  go_wp2
  go_loopw [5, 8] (fun _ iv wr => ∃ j : Nat, iv = .int .i64 (j : Int) ∧ j ≤ ps.length ∧ Hid (Below w.heap.size w wr) ∧ Hid (∀ i x, i < j → (ps.map (·.1))[i]? = some x → ¬ atP c n x)) (fun _ iv _ => ps.length - (intOf iv).toNat)
  case atStart => exact ⟨0, rfl, Nat.zero_le _, mkHid (Below.refl _ _), mkHid (fun i x hi => by omega)⟩
  case round =>
    obtain ⟨j, rfl, hj, HB, HO⟩ := hrel
    by_cases hlt : j < ps.length
    · obtain ⟨b, off, ⟨e, ta, tc⟩, rfl, hxj, hat, _⟩ := HE.out.at HB.out j hlt
      obtain ⟨q0, q1, q2, q3, q4, q5, q6, q7, q8, q9⟩ := hat.ten
      simp only [tv] at q0 q1 q2 q3 q4 q5 q6 q7 q8 q9
      have hji : (j : Int) < ps.length := by omega
      obtain ⟨bb, hbb, hcall⟩ := pl1_any wr (e, ta, tc) p q c n (kc HP.out.1 HB.out) (kc HP.out.2 HB.out)
      have HY := mkHid (And.intro (fs1_at hxj) hbb)
      have HC := mkHid hcall
      clear hxj hbb hat hcall
      simp only [vP, vN, tv] at HC
      cases bb with
      | true =>
        go_wp2_with (go_at_call 65; refine HC.out.mono ?_; rintro r w' ⟨rfl, hb⟩; have HB2 := mkHid (bt HB.out hb); clear hb)
        go_ret
        refine ⟨?_, HB2.out⟩
        obtain ⟨hy, hbb⟩ := HY.out
        have hn := hbb.mp (by first | rfl | trivial)
        have := plis_one HK.out (.inr ⟨j, e, rfl, hy, hn, HO.out⟩)
        subst this
        simp
      | false =>
        go_wp2_with (go_at_call 65; refine HC.out.mono ?_; rintro r w' ⟨rfl, hb⟩; have HB2 := mkHid (bt HB.out hb); clear hb)
        go_roundw
        case rel =>
          refine ⟨j + 1, by go_num, by omega, HB2, mkHid (fun i x hi hx => ?_)⟩
          by_cases e2 : i = j
          · subst e2
            obtain ⟨hy, hbb⟩ := HY.out
            rw [hy] at hx
            simp at hx
            rw [← hx]
            exact fun hn => by have := hbb.mpr hn; simp at this
          · exact HO.out i x (by omega) hx
        case measure => simp [intOf]; omega
    · obtain rfl : j = ps.length := by omega
      go_wp2
      go_ret
      refine ⟨?_, HB.out⟩
      have := plis_one HK.out (.inl ⟨rfl, fun i e hx => HO.out i e (by have := (List.getElem?_eq_some_iff.mp hx).1; simpa using this) hx⟩)
      subst this
      rfl
set_option maxHeartbeats 3200000 in
theorem place_any (w : World) (v : Value) (ps : List Ep) (c n : Int) (k : Nat) (h : Ens w v ps) (hl : (ps.length : Int) ≤ 9223372036854775807) (hk : PlIs (ps.map (·.1)) c n k) :
    Calls Tryd.prog 57 #[v, .int .i64 c, .int .i64 n] w fun e w' => e = .returned (.int .i64 (k : Int)) ∧ Below w.heap.size w w' := by
  have HE := mkHid (fun W (hW : Below w.heap.size w W) => idxPl W v ps w.heap.size (w.heap.size + 1) c n k (h.below hW) hl)
  obtain ⟨a, cap, rfl⟩ : ∃ a c, v = .slice a ps.length c := by obtain ⟨a, c, e, _⟩ := h; exact ⟨a, c, e⟩
  have hk2 : (k : Int) ≤ 9223372036854775807 := by have := hk.le; simp at this; omega
  have HK := mkHid hk
  have hmf : ∀ (fn : Fn) (first cap : Array Value) (w : World), (Instr.makeFunc fn first cap).run Tryd.prog w = .ok (.func fn first cap) w := fun _ _ _ _ => rfl
  clear h hk
  simp only [plFn] at HE
  go_enter Tryd.func57, Tryd.ntmps57
  go_wp2_with (go_at_call 64; refine (HE.out _ (ba (ba (Below.refl _ w) _) _) (kl (cell_of_block (heap_alloc_new w _) rfl) _) (by have := cell_of_block (i := 0) (v := .int .i64 n) (heap_alloc_new (w.alloc (.cells #[.int .i64 c] 3)) (.cells #[.int .i64 n] 3)) rfl; simp at this ⊢) HK.out).mono ?_; rintro r w2 ⟨rfl, hb⟩; have HB2 := mkHid (bt (ba (ba (Below.refl _ w) _) _) hb); clear hb)
  go_ret
  exact ⟨by simp; omega, HB2.out⟩
end Go.Proofs.YtjocjkfllicjdaaDoor
