/- What a crash leaves of a sector that was written again and again; what lies in memory while DiskSafe runs. -/
import Derived.Test.YtcglonefifldnaaDoorFlushes
import Derived.Test.YtcglonefifldnaaDoorOpenCrash
import Derived.Test.YtcglonefifldnaaDoorCut
namespace Go.Proofs.YtcglonefifldnaaDoor
open Go.ChangeShapes Go.WideShapes Go.ChangeAt Go.RowKit

def half (s : List Int) (h : Nat) : List Int := (s.drop (32 * h)).take 32
def nine : List Int := filledB [9]
def pairs (ls : List (List Int)) : List (Int × List Int) := ls.flatMap (fun l => [(1, l), (2, nine)])
theorem pairs_snoc (ls : List (List Int)) (l : List Int) : pairs (ls ++ [l]) = pairs ls ++ [(1, l)] ++ [(2, nine)] := by simp [pairs]
theorem pairs_len (ls : List (List Int)) : (pairs ls).length = 2 * ls.length := by
  induction ls with
  | nil => rfl
  | cons l r ih => simp only [pairs, List.flatMap_cons, List.length_append, List.length_cons, List.length_nil] at ih ⊢; omega
theorem pairs_mem {ls : List (List Int)} {x : Int × List Int} (h : x ∈ pairs ls) : (x.1 = 1 ∧ x.2 ∈ ls) ∨ x.1 = 2 := by
  simp only [pairs, List.mem_flatMap] at h
  obtain ⟨l, hl, hx⟩ := h
  simp at hx
  rcases hx with rfl | rfl
  · exact .inl ⟨rfl, hl⟩
  · exact .inr rfl
def Halves (base : List Int) (ls : List (List Int)) (s : List Int) : Prop := Sec s ∧ ∀ h, h < 2 → half s h = half base h ∨ ∃ l ∈ ls, half s h = half l h
theorem half_torn {s l : List Int} (hl : Sec l) : half (laid s (l.take 32)) 0 = half l 0 ∧ half (laid s (l.take 32)) 1 = half s 1 := by
  have h1 := hl.len
  have h2 : (l.take 32).length = 32 := by rw [List.length_take]; omega
  constructor
  · simp [half, laid, h2]
  · unfold half laid
    rw [h2, List.drop_append, List.drop_of_length_le (by omega : (l.take 32).length ≤ 32 * 1), h2]
    simp
theorem crash_halves (kb : Nat → Bool) (t : Int) (f : Int → List Int) (base : List Int) (ls : List (List Int)) (h1 : f 1 = base) (hb : Sec base) (hl : ∀ l ∈ ls, Sec l) (j : Nat) : Halves base ls (crashedTo kb t f (pairs ls) j 1) := by
  induction j with
  | zero => exact ⟨by rw [show crashedTo kb t f (pairs ls) 0 1 = f 1 from rfl, h1]; exact hb, fun h _ => .inl (by rw [show crashedTo kb t f (pairs ls) 0 1 = f 1 from rfl, h1])⟩
  | succ j ih =>
    by_cases hj : j < (pairs ls).length
    · have hx : (pairs ls)[j]? = some (pairs ls)[j] := by simp [hj]
      rw [crashedTo_succ kb t f _ j _ hx]
      have hm := pairs_mem (List.getElem_mem hj)
      generalize (pairs ls)[j] = x at *
      generalize crashedTo kb t f (pairs ls) j = g at *
      obtain ⟨x1, x2⟩ := x
      unfold crash1
      by_cases hk : kb j
      · rw [if_pos hk]
        rcases hm with ⟨rfl, hm⟩ | rfl
        · have hs := hl x2 hm
          simp only [updI, if_true]
          by_cases ht : (j : Int) = t
          · rw [if_pos ht]
            obtain ⟨e0, e1⟩ := half_torn hs
            refine ⟨laid_sec ih.1 (fun b hb => hs.byts b (List.mem_of_mem_take hb)) (by rw [List.length_take]; omega), fun h hh => ?_⟩
            have : h = 0 ∨ h = 1 := by omega
            rcases this with rfl | rfl
            · exact .inr ⟨x2, hm, e0⟩
            · rw [e1]; exact ih.2 1 (by omega)
          · rw [if_neg ht, laid_full ih.1 hs]
            exact ⟨hs, fun h _ => .inr ⟨x2, hm, rfl⟩⟩
        · simp only [updI, show (1 : Int) ≠ 2 by omega, if_false]
          exact ih
      · rw [if_neg hk]
        exact ih
    · have hx : (pairs ls)[j]? = none := by simp; omega
      unfold crashedTo
      rw [hx]
      exact ih
def eqs (s l : List Int) (h : Nat) : Bool := (strOfNums (half s h)).toList == (strOfNums (half l h)).toList
def fnd (s base : List Int) (ls : List (List Int)) (h k : Nat) : Bool := eqs s base h || (ls.take k).any (fun l => eqs s l h)
theorem fnd_zero (s base : List Int) (ls : List (List Int)) (h : Nat) : fnd s base ls h 0 = eqs s base h := by simp [fnd]
theorem fnd_succ (s base : List Int) (ls : List (List Int)) (h k : Nat) (hk : k < ls.length) : fnd s base ls h (k + 1) = (fnd s base ls h k || eqs s (ls.getD k []) h) := by
  have : ls.getD k [] = ls[k] := by simp [List.getD, hk]
  rw [this]
  have e : ls.take (k + 1) = ls.take k ++ [ls[k]] := by rw [List.take_add_one, show ls[k]? = some ls[k] by simp [hk]]; rfl
  simp only [fnd]
  rw [e, List.any_append]
  simp [Bool.or_assoc]
theorem fnd_full {s base : List Int} {ls : List (List Int)} (hh : Halves base ls s) (h : Nat) (h2 : h < 2) : fnd s base ls h ls.length = true := by
  unfold fnd eqs
  rcases hh.2 h h2 with e | ⟨l, hl, e⟩
  · simp [e]
  · rw [List.take_length]
    have : ls.any (fun l => (strOfNums (half s h)).toList == (strOfNums (half l h)).toList) = true := List.any_eq_true.mpr ⟨l, hl, by simp [e]⟩
    simp [this]
theorem Lst.late {G : Nat → Prop} {base : Nat} {w w' : World} {v : Value} {ps : List (List Int)} (h : Lst G base w v ps) (hG : ∀ j, G j → j < w.heap.size) (hb : Below w.heap.size w w') : Lst G base w' v ps :=
  h.kept (kept_of_below hb) (fun j hj hge => by have := hG j hj; omega) (fun j hj hge => by obtain ⟨vs, ho, _⟩ := h; have := ho.lt j hj; omega)
theorem lst_put {G : Nat → Prop} {base : Nat} {wr w1 w2 : World} {lv lv' v1 : Value} {vs : List Value} {ps : List (List Int)} {p : List Int} (hr : RdAll G w1 vs ps) (hG : ∀ j, G j → j < wr.heap.size) (hd : ∀ k, lv.ownBlock = some k → ¬ G k ∧ k < wr.heap.size)
    (r1 : Rd w1 v1 p) (hb1 : ∀ k, v1.ownBlock = some k → wr.heap.size ≤ k ∧ k < w1.heap.size) (hsz : wr.heap.size ≤ w1.heap.size) (o : Obj) (ho2 : w2.ownsRow base 33 1 lv' (ps.length + 1) (vs ++ [v1])) (hg : (w1.alloc o).grownBy w2 lv.ownBlock) (hat : lv'.ownBlock = lv.ownBlock ∨ lv'.ownBlock = some (w1.alloc o).heap.size) :
    Lst (fun j => G j ∨ (wr.heap.size ≤ j ∧ j < w1.heap.size)) base w2 lv' (ps ++ [p]) := by
  have hk : Kept (fun k => lv.ownBlock = some k) w1 w2 := (Kept.alloc _ w1 o).trans (Kept.grown hg (fun k hk => hk)) (fun i hi => .inl hi)
  have hn : ∀ k, (G k ∨ (wr.heap.size ≤ k ∧ k < w1.heap.size)) → ¬ lv.ownBlock = some k := by
    intro k h1 h2
    have := hd k h2
    rcases h1 with h1 | h1
    · exact this.1 h1
    · omega
  refine ⟨vs ++ [v1], by rw [List.length_append]; exact ho2, ?_, ?_⟩
  · refine RdAll.kept ((hr.mono (fun k hk => .inl hk)).append ⟨⟨r1, fun _ k hk => .inr (hb1 k hk)⟩, trivial⟩) hk hn
  · intro k hk' h1
    rcases hat with e | e
    · exact hn k h1 (e ▸ hk')
    · rw [e] at hk'
      simp at hk'
      rcases h1 with h1 | h1
      · have := hG k h1
        omega
      · omega
/-- The disk, the base and the later writes, each in blocks of its own. -/
structure SM (w wr : World) (p : Nat) (F : Nat → Prop) (f : Int → List Int) (c : List (Int × List Int)) (nw : Int) (bv : Value) (base : List Int) (lv : Value) (ls : List (List Int)) (H : Nat → Prop) : Prop where
  ds : DS w wr p 3 f c nw F
  rb : Rd wr bv base
  rl : Lst H w.heap.size wr lv ls
  hH : ∀ k, H k → k < wr.heap.size ∧ ¬ F k
  hb : ∀ k, bv.ownBlock = some k → k < wr.heap.size ∧ ¬ F k ∧ lv.ownBlock ≠ some k
  hv : ∀ k, lv.ownBlock = some k → (w.heap.size ≤ k ∧ k < wr.heap.size) ∧ ¬ F k
theorem SM.late {w : World} {wr : World} {w' : World} {p : Nat} {F : Nat → Prop} {H : Nat → Prop} {f : Int → List Int} {c : List (Int × List Int)} {nw : Int} {bv : Value} {lv : Value} {base : List Int} {ls : List (List Int)} (h : SM w wr p F f c nw bv base lv ls H) (hb : Below wr.heap.size wr w') : SM w w' p F f c nw bv base lv ls H :=
  ⟨h.ds.late hb, h.rb.later hb, h.rl.late (fun j hj => (h.hH j hj).1) hb, fun k hk => ⟨Nat.lt_of_lt_of_le (h.hH k hk).1 hb.size, (h.hH k hk).2⟩, fun k hk => ⟨Nat.lt_of_lt_of_le (h.hb k hk).1 hb.size, (h.hb k hk).2⟩, fun k hk => ⟨⟨(h.hv k hk).1.1, Nat.lt_of_lt_of_le (h.hv k hk).1.2 hb.size⟩, (h.hv k hk).2⟩⟩
theorem SM.next {w : World} {wr : World} {w' : World} {p : Nat} {F : Nat → Prop} {F' : Nat → Prop} {H : Nat → Prop} {f : Int → List Int} {f' : Int → List Int} {c : List (Int × List Int)} {c' : List (Int × List Int)} {nw : Int} {nw' : Int} {bv : Value} {lv : Value} {base : List Int} {ls : List (List Int)} (h : SM w wr p F f c nw bv base lv ls H) (hD : Dk F' w' p 3 f' c' nw' false) (hF : ∀ k, F' k → F k ∨ wr.heap.size ≤ k) (hk : Kept F wr w') : SM w w' p F' f' c' nw' bv base lv ls H := by
  have nf : ∀ k, k < wr.heap.size → ¬ F k → ¬ F' k := fun k h1 h2 h3 => (hF k h3).elim h2 (fun h => by omega)
  exact ⟨h.ds.next hD hF hk, h.rb.kept hk (fun k e => (h.hb k e).2.1), h.rl.kept hk (fun k e => (h.hH k e).2) (fun k e => (h.hv k e).2), fun k e => ⟨Nat.lt_of_lt_of_le (h.hH k e).1 hk.size, nf k (h.hH k e).1 (h.hH k e).2⟩, fun k e => ⟨Nat.lt_of_lt_of_le (h.hb k e).1 hk.size, nf k (h.hb k e).1 (h.hb k e).2.1, (h.hb k e).2.2⟩, fun k e => ⟨⟨(h.hv k e).1.1, Nat.lt_of_lt_of_le (h.hv k e).1.2 hk.size⟩, nf k (h.hv k e).1.2 (h.hv k e).2⟩⟩
/-- One more later write. -/
theorem SM.put {w : World} {wr : World} {p : Nat} {F : Nat → Prop} {H : Nat → Prop} {f : Int → List Int} {c : List (Int × List Int)} {nw : Int} {bv : Value} {lv : Value} {base : List Int} {ls : List (List Int)} {w1 w2 : World} {lv' v1 : Value} {vs : List Value} {l : List Int} {o : Obj} (h : SM w wr p F f c nw bv base lv ls H) (hb1 : Below wr.heap.size wr w1) (hr : RdAll H w1 vs ls) (r1 : Rd w1 v1 l) (hv1 : ∀ k, v1.ownBlock = some k → wr.heap.size ≤ k ∧ k < w1.heap.size)
    (ho2 : w2.ownsRow w.heap.size 33 1 lv' (ls.length + 1) (vs ++ [v1])) (hg : (w1.alloc o).grownBy w2 lv.ownBlock) (hat : lv'.ownBlock = lv.ownBlock ∨ lv'.ownBlock = some (w1.alloc o).heap.size) : SM w w2 p F f c nw bv base lv' (ls ++ [l]) (fun j => H j ∨ (wr.heap.size ≤ j ∧ j < w1.heap.size)) := by
  have h1 := h.late hb1
  have hk : Kept (fun k => lv.ownBlock = some k) w1 w2 := (Kept.alloc _ w1 o).trans (Kept.grown hg (fun k hk => hk)) (fun i hi => .inl hi)
  have hL := lst_put (base := w.heap.size) hr (fun j hj => (h.hH j hj).1) (fun k hk => ⟨by obtain ⟨_, _, _, hd⟩ := h.rl; exact hd k hk, (h.hv k hk).1.2⟩) r1 hv1 hb1.size o ho2 hg hat
  have hs1 := hb1.size
  have hs2 := hk.size
  have hlv : ∀ k, lv'.ownBlock = some k → lv.ownBlock = some k ∨ w1.heap.size ≤ k := fun k hk' => by
    rcases hat with e | e
    · exact .inl (e ▸ hk')
    · rw [e] at hk'
      simp at hk'
      exact .inr (by omega)
  refine ⟨⟨h1.ds.dk.kept hk (fun k hf e => (h.hv k e).2 hf), h1.ds.bel.trans (hk.below (fun k e => (h.hv k e).1.1) h1.ds.bel.size), h1.ds.new⟩, h1.rb.kept hk (fun k e => (h.hb k e).2.2), hL, fun k e => ?_, fun k e => ⟨Nat.lt_of_lt_of_le (h1.hb k e).1 hs2, (h.hb k e).2.1, fun e2 => ?_⟩, fun k e => ⟨ho2.lt k e, fun hf => ?_⟩⟩
  · rcases e with e | e
    · exact ⟨Nat.lt_of_lt_of_le (h1.hH k e).1 hs2, (h.hH k e).2⟩
    · exact ⟨by omega, fun hf => by have := h.ds.dk.1 k hf; omega⟩
  · rcases hlv k e2 with e3 | e3
    · exact (h.hb k e).2.2 e3
    · have := (h1.hb k e).1
      omega
  · rcases hlv k e with e3 | e3
    · exact (h.hv k e3).2 hf
    · have := h1.ds.dk.1 k hf
      omega
/-- A new base, and no later writes. -/
theorem SM.reset {w : World} {wr : World} {p : Nat} {F : Nat → Prop} {H : Nat → Prop} {f : Int → List Int} {c : List (Int × List Int)} {nw : Int} {bv : Value} {lv : Value} {base : List Int} {ls : List (List Int)} {w1 : World} {v1 : Value} {l : List Int} (h : SM w wr p F f c nw bv base lv ls H) (hb1 : Below wr.heap.size wr w1) (r1 : Rd w1 v1 l) (hv1 : ∀ k, v1.ownBlock = some k → wr.heap.size ≤ k ∧ k < w1.heap.size) : SM w w1 p F f c nw v1 l (.slice none 0 0) [] (fun _ => False) :=
  ⟨h.ds.late hb1, r1, Lst.nil _ _ _, fun k e => e.elim, fun k e => ⟨(hv1 k e).2, fun hf => by have := h.ds.dk.1 k hf; have := hv1 k e; omega, fun e2 => by simp [Value.ownBlock] at e2⟩, fun k e => by simp [Value.ownBlock] at e⟩
/-- What is told of the writes so far. -/
structure SN (f : Int → List Int) (c : List (Int × List Int)) (nw : Int) (base : List Int) (ls : List (List Int)) (j : Nat) : Prop where
  cc : c = pairs ls
  f1 : f 1 = base
  f0 : f 0 = zeros
  sb : Sec base
  sl : ∀ l ∈ ls, Sec l
  cl : ls.length ≤ j
  nn : 0 ≤ nw ∧ nw ≤ 2 * j
theorem flushed_append (f : Int → List Int) (a b : List (Int × List Int)) : flushed f (a ++ b) = flushed (flushed f a) b := by simp [flushed]
theorem flushed_pairs0 (f : Int → List Int) (ls : List (List Int)) : flushed f (pairs ls) 0 = f 0 :=
  flushed_other f _ 0 (fun x hx => by rcases pairs_mem hx with ⟨h, _⟩ | h <;> omega)
theorem flushed_sec (f : Int → List Int) (hf : Sec (f 1)) (ls : List (List Int)) (hl : ∀ l ∈ ls, Sec l) : Sec (flushed f (pairs ls) 1) := by
  induction ls generalizing f with
  | nil => exact hf
  | cons l r ih =>
    have e : pairs (l :: r) = [(1, l)] ++ [(2, nine)] ++ pairs r := by simp [pairs]
    rw [e, flushed_append]
    refine ih _ ?_ (fun x hx => hl x (by simp [hx]))
    have := laid_full hf (hl l (by simp))
    simp [flushed, lay1, updI, this, hl l (by simp)]
theorem flushed_last (f : Int → List Int) (hf : Sec (f 1)) (ls : List (List Int)) (l : List Int) (hl : ∀ x ∈ ls, Sec x) (h : Sec l) : flushed f (pairs (ls ++ [l])) 1 = l := by
  rw [pairs_snoc, flushed_append, flushed_append]
  have hs := flushed_sec f hf ls hl
  have := laid_full hs h
  simp [flushed, lay1, updI] at this ⊢
  exact this
theorem SN.put {f : Int → List Int} {c : List (Int × List Int)} {nw : Int} {base : List Int} {ls : List (List Int)} {j : Nat} (h : SN f c nw base ls j) {l : List Int} (hl : Sec l) : SN f (c ++ [(1, l)] ++ [(2, nine)]) (nw + 1 + 1) base (ls ++ [l]) (j + 1) :=
  ⟨by rw [pairs_snoc, h.cc], h.f1, h.f0, h.sb, fun x hx => by rcases List.mem_append.mp hx with hx | hx; exact h.sl x hx; simp at hx; subst hx; exact hl, by have := h.cl; simp; omega, by have := h.nn; omega⟩
theorem SN.flush {f : Int → List Int} {c : List (Int × List Int)} {nw : Int} {base : List Int} {ls : List (List Int)} {j : Nat} {l : List Int} (h : SN f c nw base (ls ++ [l]) j) : SN (flushed f c) [] nw l [] j := by
  have hl : Sec l := h.sl l (by simp)
  have hf : Sec (f 1) := by rw [h.f1]; exact h.sb
  exact ⟨rfl, by rw [h.cc]; exact flushed_last f hf ls l (fun x hx => h.sl x (by simp [hx])) hl, by rw [h.cc, flushed_pairs0]; exact h.f0, hl, by simp, by simp, h.nn⟩
theorem SN.clen {f : Int → List Int} {c : List (Int × List Int)} {nw : Int} {base : List Int} {ls : List (List Int)} {j : Nat} (h : SN f c nw base ls j) : c.length ≤ 2 * j := by
  rw [h.cc, pairs_len]
  have := h.cl
  omega
end Go.Proofs.YtcglonefifldnaaDoor
