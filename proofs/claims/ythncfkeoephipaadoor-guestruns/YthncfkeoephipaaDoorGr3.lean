/- The law GuestRuns: what it keeps of each task, in memory, beside a guest. -/
import Derived.Test.YthncfkeoephipaaDoorGr2
namespace Go.Proofs.YthncfkeoephipaaDoor
open Go.ChangeShapes Go.WideShapes Go.ChangeAt Go.RowKit
attribute [local go_sem] World.cell?_alloc_some frozen_alloc_some

def upd {α : Type} (L : Nat → α) (i : Nat) (x : α) : Nat → α := fun k => if k = i then x else L k
theorem upd_at {α : Type} (L : Nat → α) (i : Nat) (x : α) : upd L i x i = x := by simp [upd]
theorem upd_off {α : Type} (L : Nat → α) {i k : Nat} (x : α) (h : ¬ k = i) : upd L i x k = L k := by simp [upd, h]
/-- Numbers of a row, told by a function. -/
def rnC (n : Nat) (N : Nat → Int) : Array Value := ((List.range n).map (fun k => Value.int .i64 (N k))).toArray
theorem rnC_at {n : Nat} (N : Nat → Int) {k : Nat} (h : k < n) : (rnC n N)[k]? = some (.int .i64 (N k)) := by
  unfold rnC
  rw [List.getElem?_toArray, List.getElem?_map, List.getElem?_range h]
  rfl
theorem rnC_set (n : Nat) (N : Nat → Int) (k : Nat) (x : Int) : (rnC n N).set! k (.int .i64 x) = rnC n (upd N k x) := by
  unfold rnC
  simp only [Array.set!_eq_setIfInBounds, List.setIfInBounds_toArray]
  congr 1
  apply List.ext_getElem?
  intro m
  by_cases hm : m < n
  · rw [List.getElem?_set, List.getElem?_map, List.getElem?_map, List.getElem?_range hm]
    by_cases e : k = m
    · subst e
      simp [hm, upd]
    · have e2 : ¬ m = k := fun q => e q.symm
      simp [e, upd, e2]
  · rw [List.getElem?_eq_none (by simp; omega), List.getElem?_eq_none (by simp; omega)]
structure WS (w : World) (bw br : Nat) (rv : List Value) (L : Nat → List Jb) (N : Nat → Int) (n : Nat) : Prop where
  tb : w.heap[bw]? = some (.cells rv.toArray 54 (0, 0))
  rb : w.heap[br]? = some (.cells (rnC n N) 3 (0, 0))
  ln : rv.length = n
  row : ∀ (k : Nat) (v : Value), rv[k]? = some v → RJ w v (L k)
  ne : ¬ bw = br
  w1 : ∀ (k : Nat) (v : Value), rv[k]? = some v → v.ownBlock ≠ some bw ∧ v.ownBlock ≠ some br
  w2 : ∀ (k l : Nat) (v u : Value) (g : Nat), ¬ k = l → rv[k]? = some v → rv[l]? = some u → v.ownBlock = some g → ¬ u.ownBlock = some g
def WF (bw br : Nat) (rv : List Value) (k : Nat) : Prop := k = bw ∨ k = br ∨ ∃ (i : Nat) (v : Value), rv[i]? = some v ∧ v.ownBlock = some k
theorem WF.own {bw br : Nat} {rv : List Value} {i k : Nat} {v : Value} (hv : rv[i]? = some v) (e : v.ownBlock = some k) : WF bw br rv k := .inr (.inr ⟨i, v, hv, e⟩)
theorem WS.lt {w : World} {bw br : Nat} {rv : List Value} {L : Nat → List Jb} {N : Nat → Int} {n : Nat} (h : WS w bw br rv L N n) {k : Nat} (hk : WF bw br rv k) : k < w.heap.size := by
  rcases hk with rfl | rfl | ⟨i, v, hi, hv⟩
  · exact lt_of_heap h.tb
  · exact lt_of_heap h.rb
  · exact (h.row i v hi).lt hv
theorem WS.kept {G : Nat → Prop} {w w' : World} {bw br : Nat} {rv : List Value} {L : Nat → List Jb} {N : Nat → Int} {n : Nat} (h : WS w bw br rv L N n) (hk : Kept G w w') (hn : ∀ k, WF bw br rv k → ¬ G k) : WS w' bw br rv L N n :=
  ⟨(hk.block bw (lt_of_heap h.tb) (hn _ (.inl rfl))).trans h.tb, (hk.block br (lt_of_heap h.rb) (hn _ (.inr (.inl rfl)))).trans h.rb, h.ln, fun k v hv => (h.row k v hv).kept hk (fun g hg => hn g (.inr (.inr ⟨k, v, hv, hg⟩))), h.ne, h.w1, h.w2⟩
theorem WS.congr {w : World} {bw br : Nat} {rv : List Value} {L L' : Nat → List Jb} {N N' : Nat → Int} {n : Nat} (h : WS w bw br rv L N n) (hL : ∀ k, L k = L' k) (hN : ∀ k, N k = N' k) : WS w bw br rv L' N' n := by
  rw [← funext hL, ← funext hN]; exact h
theorem setL (rv : List Value) (i : Nat) (v : Value) : rv.toArray.set! i v = (rv.set i v).toArray := by
  simp only [Array.set!_eq_setIfInBounds, List.setIfInBounds_toArray]
/-- A row is put in the place of another. -/
theorem WS.put {w w1 : World} {bw br : Nat} {rv : List Value} {L : Nat → List Jb} {N : Nat → Int} {n i : Nat} {v v' : Value} {l : List Jb} (h : WS w bw br rv L N n) (hv : rv[i]? = some v) (hk : Kept (fun k => v.ownBlock = some k) w w1) (hr : RJ w1 v' l) (hat : ∀ k, v'.ownBlock = some k → v.ownBlock = some k ∨ w.heap.size ≤ k) :
    WS (w1.setCell ⟨bw, i, none⟩ v') bw br (rv.set i v') (upd L i l) N n ∧ Kept (WF bw br rv) w (w1.setCell ⟨bw, i, none⟩ v') ∧ ∀ k, WF bw br (rv.set i v') k → WF bw br rv k ∨ w.heap.size ≤ k := by
  have hi := (List.getElem?_eq_some_iff.mp hv).1
  have k2 := Kept.setCell (F := fun k => k = bw) w1 (p := ⟨bw, i, none⟩) rfl v'
  have hvb : ∀ k, k < w.heap.size → v.ownBlock ≠ some k → v'.ownBlock ≠ some k := fun k hk h1 h2 => by
    rcases hat k h2 with a | a
    · exact h1 a
    · omega
  have lb := lt_of_heap h.tb
  have lr := lt_of_heap h.rb
  have hb1 := (hk.block bw lb (h.w1 i v hv).1).trans h.tb
  have hr1 := (hk.block br lr (h.w1 i v hv).2).trans h.rb
  have hst := heap_set (i := i) (v := v') hb1
  rw [setL] at hst
  refine ⟨⟨hst, (k2.block br (lt_of_heap hr1) (fun e => h.ne e.symm)).trans hr1, by rw [List.length_set]; exact h.ln, fun k u hu => ?_, h.ne, fun k u hu => ?_, fun k l u x g hkl hu hx hg => ?_⟩, (hk.mono (fun k e => WF.own hv e)).trans k2 (fun k e => .inl (.inl e)), fun k hk2 => ?_⟩
  · rw [List.getElem?_set] at hu
    by_cases e : i = k
    · subst e
      simp [hi] at hu
      subst hu
      rw [upd_at]
      exact hr.kept k2 (fun k hk e => hvb bw lb (h.w1 i v hv).1 (e ▸ hk))
    · rw [if_neg e] at hu
      rw [upd_off _ _ (fun q => e q.symm)]
      exact ((h.row k u hu).kept hk (fun g hg f => h.w2 k i u v g (fun q => e q.symm) hu hv hg f)).kept k2 (fun g hg e => (h.w1 k u hu).1 (e ▸ hg))
  · rw [List.getElem?_set] at hu
    by_cases e : i = k
    · subst e
      simp [hi] at hu
      subst hu
      exact ⟨hvb bw lb (h.w1 i v hv).1, hvb br lr (h.w1 i v hv).2⟩
    · rw [if_neg e] at hu
      exact h.w1 k u hu
  · rw [List.getElem?_set] at hu hx
    by_cases e : i = k
    · subst e
      rw [if_neg hkl] at hx
      simp [hi] at hu
      subst hu
      intro f
      rcases hat g hg with a | a
      · exact h.w2 i l v x g hkl hv hx a f
      · have := (h.row l x hx).lt f; omega
    · rw [if_neg e] at hu
      by_cases e2 : i = l
      · subst e2
        simp [hi] at hx
        subst hx
        intro f
        rcases hat g f with a | a
        · exact h.w2 k i u v g hkl hu hv hg a
        · have := (h.row k u hu).lt hg; omega
      · rw [if_neg e2] at hx
        exact h.w2 k l u x g hkl hu hx hg
  · rcases hk2 with a | a | ⟨m, u, hu, hg⟩
    · exact .inl (.inl a)
    · exact .inl (.inr (.inl a))
    · rw [List.getElem?_set] at hu
      by_cases e : i = m
      · subst e
        simp [hi] at hu
        subst hu
        rcases hat k hg with a | a
        · exact .inl (.inr (.inr ⟨i, v, hv, a⟩))
        · exact .inr a
      · rw [if_neg e] at hu
        exact .inl (.inr (.inr ⟨m, u, hu, hg⟩))
/-- A number is put. -/
theorem WS.num {w : World} {bw br : Nat} {rv : List Value} {L : Nat → List Jb} {N : Nat → Int} {n : Nat} (h : WS w bw br rv L N n) (i : Nat) (x : Int) :
    WS (w.setCell ⟨br, i, none⟩ (.int .i64 x)) bw br rv L (upd N i x) n ∧ Kept (WF bw br rv) w (w.setCell ⟨br, i, none⟩ (.int .i64 x)) := by
  have k2 := Kept.setCell (F := fun k => k = br) w (p := ⟨br, i, none⟩) rfl (.int .i64 x)
  refine ⟨⟨(k2.block bw (lt_of_heap h.tb) h.ne).trans h.tb, ?_, h.ln, fun k v hv => (h.row k v hv).kept k2 (fun g hg e => (h.w1 k v hv).2 (e ▸ hg)), h.ne, h.w1, h.w2⟩, k2.mono (fun k e => .inr (.inl e))⟩
  rw [← rnC_set]
  exact heap_set h.rb
/-- A case, a guest, a script's copy and what the law keeps. -/
structure RS (W w : World) (R B b : Nat) (p : Int) (tv sv xv jv : Value) (ts : List Tk) (s : Gt) (bc bw br : Nat) (cv : Value) (os : List Op5) (rv : List Value) (L : Nat → List Jb) (N : Nat → Int) : Prop where
  lg : LG W w R B b p tv sv xv jv ts s
  ws : WS w bw br rv L N ts.length
  cp : Ops w cv os
  cb : cv.ownBlock = some bc
  cl : bc < w.heap.size
  ap : ∀ k, (k = bc ∨ WF bw br rv k) → R < k ∧ ¬ Ft xv jv b k
  cw : ¬ WF bw br rv bc
theorem RS.late {W w : World} {R B b : Nat} {p : Int} {tv sv xv jv : Value} {ts : List Tk} {s : Gt} {bc bw br : Nat} {cv : Value} {os : List Op5} {rv : List Value} {L : Nat → List Jb} {N : Nat → Int} {w' : World} (h : RS W w R B b p tv sv xv jv ts s bc bw br cv os rv L N) (hb : Below w.heap.size w w') : RS W w' R B b p tv sv xv jv ts s bc bw br cv os rv L N :=
  ⟨h.lg.late hb, h.ws.kept (kept_new (F := fun _ => False) hb) (fun _ _ f => f), h.cp.below hb, h.cb, Nat.lt_of_lt_of_le h.cl hb.size, h.ap, h.cw⟩
theorem RS.alloc {W w : World} {R B b : Nat} {p : Int} {tv sv xv jv : Value} {ts : List Tk} {s : Gt} {bc bw br : Nat} {cv : Value} {os : List Op5} {rv : List Value} {L : Nat → List Jb} {N : Nat → Int} (h : RS W w R B b p tv sv xv jv ts s bc bw br cv os rv L N) (o : Obj) : RS W (w.alloc o) R B b p tv sv xv jv ts s bc bw br cv os rv L N := h.late (ba (Below.refl _ w) o)
theorem RS.drewN {W w : World} {R B b : Nat} {p : Int} {tv sv xv jv : Value} {ts : List Tk} {s : Gt} {bc bw br : Nat} {cv : Value} {os : List Op5} {rv : List Value} {L : Nat → List Jb} {N : Nat → Int} (h : RS W w R B b p tv sv xv jv ts s bc bw br cv os rv L N) (n : Nat) : RS W (w.drewN n) R B b p tv sv xv jv ts s bc bw br cv os rv L N := h.late (below_drewN (Below.refl _ w) n)
/-- A call on the guest. -/
theorem RS.call {W w : World} {R B b : Nat} {p : Int} {tv sv xv jv : Value} {ts : List Tk} {s : Gt} {bc bw br : Nat} {cv : Value} {os : List Op5} {rv : List Value} {L : Nat → List Jb} {N : Nat → Int} {w' : World} {jv' : Value} {s' : Gt} (h : RS W w R B b p tv sv xv jv ts s bc bw br cv os rv L N) (hg : GB B w' b p xv jv' s') (hk : Kept (Ft xv jv b) w w') (hv : ∀ k, jv'.ownBlock = some k → jv.ownBlock = some k ∨ w.heap.size ≤ k) (ok : s'.Ok p) (e : s'.ts = s.ts) : RS W w' R B b p tv sv xv jv' ts s' bc bw br cv os rv L N := by
  refine ⟨h.lg.call hg hk ok e, h.ws.kept hk (fun k f => (h.ap k (.inr f)).2), h.cp.kept hk (fun k f => ?_), h.cb, Nat.lt_of_lt_of_le h.cl hk.size, fun k f => ⟨(h.ap k f).1, fun q => ?_⟩, h.cw⟩
  · rw [h.cb] at f
    cases f
    exact (h.ap _ (.inl rfl)).2
  · have hl : k < w.heap.size := by
      rcases f with f | f
      · rw [f]; exact h.cl
      · exact h.ws.lt f
    have hn := (h.ap k f).2
    rcases q with q | q | q
    · exact hn (.inl q)
    · exact hn (.inr (.inl q))
    · rcases hv k q with a | a
      · exact hn (.inr (.inr a))
      · omega
/-- What the law keeps is written. -/
theorem RS.own {W w : World} {R B b : Nat} {p : Int} {tv sv xv jv : Value} {ts : List Tk} {s : Gt} {bc bw br : Nat} {cv : Value} {os : List Op5} {rv : List Value} {L : Nat → List Jb} {N : Nat → Int} {w' : World} {rv' : List Value} {L' : Nat → List Jb} {N' : Nat → Int} (h : RS W w R B b p tv sv xv jv ts s bc bw br cv os rv L N) (hk : Kept (WF bw br rv) w w') (hs : WS w' bw br rv' L' N' ts.length) (hn : ∀ k, WF bw br rv' k → WF bw br rv k ∨ w.heap.size ≤ k) : RS W w' R B b p tv sv xv jv ts s bc bw br cv os rv' L' N' := by
  have hR := h.lg.cb.lt
  have hrw := h.lg.rw
  refine ⟨⟨h.lg.bel.trans (hk.below (fun k e => by have := (h.ap k (.inr e)).1; omega) h.lg.bel.size), h.lg.rw, h.lg.rb, (hk.block R hR (fun e => by have := (h.ap R (.inr e)).1; omega)).trans h.lg.cb, h.lg.gb.kept hk (fun k e f => (h.ap k (.inr e)).2 f), h.lg.ok, h.lg.e⟩, hs, h.cp.kept hk (fun k f => ?_), h.cb, Nat.lt_of_lt_of_le h.cl hk.size, fun k f => ?_, fun f => ?_⟩
  · rw [h.cb] at f
    cases f
    exact h.cw
  · rcases f with f | f
    · exact h.ap k (.inl f)
    · rcases hn k f with a | a
      · exact h.ap k (.inr a)
      · exact ⟨by omega, fun q => by have := (h.lg.gb.foot q).2; omega⟩
  · rcases hn _ f with a | a
    · exact h.cw a
    · have := h.cl; omega
theorem RS.congr {W w : World} {R B b : Nat} {p : Int} {tv sv xv jv : Value} {ts : List Tk} {s : Gt} {bc bw br : Nat} {cv : Value} {os : List Op5} {rv : List Value} {L : Nat → List Jb} {N : Nat → Int} {L' : Nat → List Jb} {N' : Nat → Int} (h : RS W w R B b p tv sv xv jv ts s bc bw br cv os rv L N) (hL : ∀ k, L k = L' k) (hN : ∀ k, N k = N' k) : RS W w R B b p tv sv xv jv ts s bc bw br cv os rv L' N' :=
  ⟨h.lg, h.ws.congr hL hN, h.cp, h.cb, h.cl, h.ap, h.cw⟩
end Go.Proofs.YthncfkeoephipaaDoor
