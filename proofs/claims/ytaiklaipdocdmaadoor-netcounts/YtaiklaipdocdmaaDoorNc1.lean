/- The law NetCounts: letters of each mark, counted. -/
import Derived.Test.YtaiklaipdocdmaaDoorNtO
namespace Go.Proofs.YtaiklaipdocdmaaDoor
open Go.ChangeShapes Go.WideShapes Go.ChangeAt Go.RowKit
set_option maxRecDepth 100000
attribute [local go_sem] World.cell?_alloc_some frozen_alloc_some

def upd {α : Type} (L : Nat → α) (i : Nat) (x : α) : Nat → α := fun k => if k = i then x else L k
theorem upd_at {α : Type} (L : Nat → α) (i : Nat) (x : α) : upd L i x i = x := by simp [upd]
theorem upd_off {α : Type} (L : Nat → α) {i k : Nat} (x : α) (h : ¬ k = i) : upd L i x k = L k := by simp [upd, h]
/-- Numbers of a row, told by a function. -/
def rnC (n : Nat) (N : Nat → Int) : Array Value := ((List.range n).map (fun k => Value.int .i64 (N k))).toArray
theorem rnC_at {n : Nat} (N : Nat → Int) {k : Nat} (h : k < n) : (rnC n N)[k]? = some (.int .i64 (N k)) := by
  unfold rnC
  rw [List.getElem?_toArray, List.getElem?_map, List.getElem?_range h]
  rfl
theorem rnC_set (n : Nat) (N : Nat → Int) (k : Nat) (x : Int) : (rnC n N).set! k (.int .i64 x) = rnC n (upd N k x) := by
  unfold rnC
  simp only [Array.set!_eq_setIfInBounds, List.setIfInBounds_toArray]
  congr 1
  apply List.ext_getElem?
  intro m
  by_cases hm : m < n
  · rw [List.getElem?_set, List.getElem?_map, List.getElem?_map, List.getElem?_range hm]
    by_cases e : k = m
    · subst e
      simp [hm, upd]
    · have e2 : ¬ m = k := fun q => e q.symm
      simp [e, upd, e2]
  · rw [List.getElem?_eq_none (by simp; omega), List.getElem?_eq_none (by simp; omega)]
theorem rnC_size (n : Nat) (N : Nat → Int) : (rnC n N).size = n := by simp [rnC]
theorem rnC_congr {n : Nat} {N M : Nat → Int} (h : ∀ k, k < n → N k = M k) : rnC n N = rnC n M := by
  unfold rnC
  congr 1
  apply List.map_congr_left
  intro k hk
  rw [h k (List.mem_range.mp hk)]
/-- How many letters have a mark. -/
def cntL (ls : List Lt) (k : Nat) : Int := (ls.countP (fun l => decide (l.bs = [(k : Int)])) : Nat)
theorem cntL_nil (k : Nat) : cntL [] k = 0 := rfl
theorem cntL_le (ls : List Lt) (k : Nat) : 0 ≤ cntL ls k ∧ cntL ls k ≤ ls.length := by
  unfold cntL
  have := List.countP_le_length (p := fun l : Lt => decide (l.bs = [(k : Int)])) (l := ls)
  omega
theorem cntL_put (n : Nt) (l : Lt) (m k : Nat) (h : l.bs = [(m : Int)]) : cntL (n.put l).ls k = if k = m then cntL n.ls k + 1 else cntL n.ls k := by
  unfold cntL Nt.put
  rw [List.countP_append]
  by_cases e : k = m
  · subst e
    simp [h]
  · have e2 : ¬ (m : Int) = (k : Int) := by omega
    simp [h, e, e2]
theorem eraseIdx_split {α : Type} {ls : List α} {K : Nat} {x : α} (h : ls[K]? = some x) : ls = ls.take K ++ x :: ls.drop (K + 1) ∧ ls.eraseIdx K = ls.take K ++ ls.drop (K + 1) := by
  obtain ⟨hl, hg⟩ := List.getElem?_eq_some_iff.mp h
  refine ⟨?_, List.eraseIdx_eq_take_drop_succ ls K⟩
  rw [← hg, List.getElem_cons_drop, List.take_append_drop]
theorem cntL_out {n : Nt} {K : Nat} {l : Lt} (hl : n.ls[K]? = some l) (m k : Nat) (h : l.bs = [(m : Int)]) : cntL (n.out K).ls k = if k = m then cntL n.ls k - 1 else cntL n.ls k := by
  obtain ⟨e1, e2⟩ := eraseIdx_split hl
  have h1 : (n.out K).ls = n.ls.take K ++ n.ls.drop (K + 1) := e2
  have h2 : cntL n.ls k = cntL (n.ls.take K ++ l :: n.ls.drop (K + 1)) k := by rw [← e1]
  rw [h1, h2]
  unfold cntL
  rw [List.countP_append, List.countP_append, List.countP_cons]
  by_cases e : k = m
  · subst e
    simp [h]
    omega
  · have e3 : ¬ (m : Int) = (k : Int) := by omega
    simp [h, e, e3]
/-- What the law knows of the letters that wait. -/
structure CK (n : Nt) (ms : List Nat) (N : Nat → Int) : Prop where
  ml : ms.length = n.last + 1
  mb : ∀ m ∈ ms, m < 256
  le : ∀ l ∈ n.ls, l.fr = 1 ∧ l.to = 2 ∧ ∃ (Q m : Nat), l.nu = (Q : Int) ∧ ms[Q]? = some m ∧ l.bs = [(m : Int)]
  cn : ∀ k, k < 256 → N k = cntL n.ls k
theorem CK.zero : CK Nt.zero [0] (fun _ => 0) := ⟨rfl, by simp, by simp [Nt.zero], fun k _ => rfl⟩
theorem CK.put {n : Nt} {ms : List Nat} {N : Nat → Int} (h : CK n ms N) {l : Lt} {m : Nat} (hm : m < 256) (hb : l.bs = [(m : Int)]) (hf : l.fr = 1) (ht : l.to = 2) : CK (n.put l) (ms ++ [m]) (upd N m (N m + 1)) := by
  refine ⟨by rw [List.length_append, h.ml]; rfl, fun x hx => ?_, fun x hx => ?_, fun k hk => ?_⟩
  · rcases List.mem_append.mp hx with q | q
    · exact h.mb x q
    · simp at q; subst q; exact hm
  · rcases List.mem_append.mp hx with q | q
    · obtain ⟨h1, h2, Q, y, h3, h4, h5⟩ := h.le x q
      exact ⟨h1, h2, Q, y, h3, by rw [List.getElem?_append_left (List.getElem?_eq_some_iff.mp h4).1]; exact h4, h5⟩
    · simp at q
      subst q
      refine ⟨hf, ht, n.last + 1, m, by simp, ?_, hb⟩
      rw [← h.ml]
      simp
  · rw [cntL_put n l m k hb]
    by_cases e : k = m
    · subst e
      rw [upd_at, if_pos rfl, h.cn k hk]
    · rw [upd_off _ _ e, if_neg e, h.cn k hk]
theorem CK.out {n : Nt} {ms : List Nat} {N : Nat → Int} (h : CK n ms N) {K : Nat} {l : Lt} {m : Nat} (hl : n.ls[K]? = some l) (hb : l.bs = [(m : Int)]) : CK (n.out K) ms (upd N m (N m - 1)) := by
  refine ⟨h.ml, h.mb, fun x hx => h.le x (List.mem_of_mem_eraseIdx hx), fun k hk => ?_⟩
  rw [cntL_out hl m k hb]
  by_cases e : k = m
  · subst e
    rw [upd_at, if_pos rfl, h.cn k hk]
  · rw [upd_off _ _ e, if_neg e, h.cn k hk]
/-- The law's net, marks and numbers in memory. -/
structure CM (W wr : World) (own : Nat → Int × Int) (p : Nat) (n : Nt) (v : Value) (ps : List Lp) (mv : Value) (ms : List Nat) (a : Nat) (N : Nat → Int) : Prop where
  nb : NB own 1 wr p v ps n
  lo : ∀ k, (own k).1 = 1 → W.heap.size ≤ k
  mr : wr.ownsRow W.heap.size 5 1 mv ms.length (ms.map (fun m : Nat => Value.int .u8 (m : Int)))
  mt : ∀ k, mv.ownBlock = some k → (own k).1 ≠ 1 ∧ k ≠ a
  ar : wr.heap[a]? = some (.cells (rnC 256 N) 40 (0, 0))
  ap : (own a).1 ≠ 1 ∧ W.heap.size ≤ a
  bel : Below W.heap.size W wr
theorem CM.below {W wr w' : World} {own : Nat → Int × Int} {p : Nat} {n : Nt} {v : Value} {ps : List Lp} {mv : Value} {ms : List Nat} {a : Nat} {N : Nat → Int} (h : CM W wr own p n v ps mv ms a N) (hb : Below wr.heap.size wr w') : CM W w' own p n v ps mv ms a N :=
  ⟨h.nb.below hb, h.lo, ownN_kept h.mr (kept_of_below hb) (fun k e hge => by have := (h.mr.lt k e).2; omega), h.mt, (hb.block a (lt_of_heap h.ar)).trans h.ar, h.ap, bt h.bel hb⟩
theorem CM.pg {W wr : World} {own : Nat → Int × Int} {p : Nat} {n : Nt} {v : Value} {ps : List Lp} {mv : Value} {ms : List Nat} {a : Nat} {N : Nat → Int} (h : CM W wr own p n v ps mv ms a N) : W.heap.size ≤ p := h.lo p (by rw [h.nb.op])
theorem CM.net {W wr w' : World} {own own' : Nat → Int × Int} {p : Nat} {n n' : Nt} {v v' : Value} {ps ps' : List Lp} {mv : Value} {ms : List Nat} {a : Nat} {N : Nat → Int} (h : CM W wr own p n v ps mv ms a N) (hr : NR own 1 wr p w' own' v' ps' n') : CM W w' own' p n' v' ps' mv ms a N :=
  ⟨hr.nb, hr.own h.lo h.bel.size, ownN_kept h.mr hr.kp (fun k e e2 => (h.mt k e).1 (by rcases e2 with e2 | e2 <;> rw [e2])), fun k e => by rw [hr.old k (h.mr.lt k e).2]; exact h.mt k e, (hr.kp.block a (lt_of_heap h.ar) (fun e2 => h.ap.1 (by rcases e2 with e2 | e2 <;> rw [e2]))).trans h.ar, by rw [hr.old a (lt_of_heap h.ar)]; exact h.ap, h.bel.trans (hr.low h.lo h.bel.size)⟩
/-- A number is written over. -/
theorem CM.num {W wr : World} {own : Nat → Int × Int} {p : Nat} {n : Nt} {v : Value} {ps : List Lp} {mv : Value} {ms : List Nat} {a : Nat} {N : Nat → Int} (h : CM W wr own p n v ps mv ms a N) (i : Nat) (y : Int) : CM W (wr.setCell ⟨a, i, none⟩ (.int .i64 y)) own p n v ps mv ms a (upd N i y) := by
  have k2 := Kept.setCell (F := fun k => k = a) wr (p := ⟨a, i, none⟩) rfl (.int .i64 y)
  refine ⟨h.nb.kept k2 (fun k e => ?_), h.lo, ownN_kept h.mr k2 (fun k e f => (h.mt k e).2 f), h.mt, ?_, h.ap, h.bel.trans (k2.below (fun k e => by rw [e]; exact h.ap.2) h.bel.size)⟩
  · subst e
    exact ⟨fun e2 => h.ap.1 (by rw [e2]), fun e2 => h.ap.1 (by rw [e2]), fun l _ e2 => h.ap.1 (by rw [e2])⟩
  · rw [← rnC_set]
    exact heap_set h.ar
/-- A mark is put behind. -/
theorem CM.push {W wr w4 : World} {own : Nat → Int × Int} {p : Nat} {n : Nt} {v : Value} {ps : List Lp} {mv v4 : Value} {ms : List Nat} {a m : Nat} {N : Nat → Int} {o : Obj} (h : CM W wr own p n v ps mv ms a N) (ho : w4.ownsRow W.heap.size 5 1 v4 (ms.length + 1) (ms.map (fun m : Nat => Value.int .u8 (m : Int)) ++ [.int .u8 (m : Int)])) (hg : (wr.alloc o).grownBy w4 mv.ownBlock) (hat : v4.ownBlock = mv.ownBlock ∨ v4.ownBlock = some (wr.alloc o).heap.size) : CM W w4 own p n v ps v4 (ms ++ [m]) a N := by
  have kg := Kept.grown hg (F := fun k => mv.ownBlock = some k) (fun k e => e)
  have ka : Kept (fun k => mv.ownBlock = some k) wr w4 := (kept_new (ba (Below.refl _ wr) o)).trans kg (fun k e => .inl e)
  refine ⟨h.nb.kept ka (fun k e => ⟨fun e2 => (h.mt k e).1 (by rw [e2]), fun e2 => (h.mt k e).1 (by rw [e2]), fun l _ e2 => (h.mt k e).1 (by rw [e2])⟩), h.lo, by rw [List.map_append, List.length_append]; exact ho, fun k e => ?_, (ka.block a (lt_of_heap h.ar) (fun e => (h.mt a e).2 rfl)).trans h.ar, h.ap, h.bel.trans (ka.below (fun k e => (h.mr.lt k e).1) h.bel.size)⟩
  rcases hat with q | q
  · exact h.mt k (q ▸ e)
  · rw [q] at e
    simp at e
    have := h.nb.sz k (by omega)
    have h2 := lt_of_heap h.ar
    exact ⟨by rw [this]; simp, by omega⟩
theorem CM.acell {W wr : World} {own : Nat → Int × Int} {p : Nat} {n : Nt} {v : Value} {ps : List Lp} {mv : Value} {ms : List Nat} {a : Nat} {N : Nat → Int} (h : CM W wr own p n v ps mv ms a N) {i : Nat} (hi : i < 256) : wr.cell? ⟨a, i, none⟩ = some (.int .i64 (N i)) ∧ wr.frozen? ⟨a, i, none⟩ = false :=
  ⟨cell_of_block h.ar (rnC_at N hi), frozen_of_block h.ar⟩
theorem CM.mcell {W wr : World} {own : Nat → Int × Int} {p g c : Nat} {l : Nat} {n : Nt} {v : Value} {ps : List Lp} {ms : List Nat} {a : Nat} {N : Nat → Int} (h : CM W wr own p n v ps (.slice (some ⟨g, 0, none⟩) l c) ms a N) {i m : Nat} (hi : ms[i]? = some m) : wr.cell? ⟨g, i, none⟩ = some (.int .u8 (m : Int)) := by
  have := h.mr.cells (g := g) rfl i (.int .u8 (m : Int)) (by rw [List.getElem?_map, hi]; rfl)
  simpa [add_none] using this
theorem find_nu {n : Nt} (h : n.Ok) {J : Nat} {l : Lt} (hl : n.ls[J]? = some l) : n.find l.nu = some J := by
  cases hf : n.find l.nu with
  | none => exact absurd rfl (find_none hf l (List.mem_of_getElem? hl))
  | some k =>
    obtain ⟨l2, hl2, e2, hk, _⟩ := find_some hf
    congr 1
    rcases Nat.lt_trichotomy k J with q | q | q
    · have := up_lt h.up hl2 hl q; omega
    · exact q
    · have := up_lt h.up hl hl2 q; omega
theorem rd_one0 (w : World) (x : Nat) (h : x < 256) : Rd (w.alloc (.cells #[.int .u8 (x : Int)] 5)) (.slice (some ⟨w.heap.size, 0, none⟩) ([(x : Int)] : List Int).length 1) [(x : Int)] := by
  refine ⟨fun b hb => by simp at hb; subst hb; omega, some ⟨w.heap.size, 0, none⟩, 1, rfl, by simp, fun e => by simp at e, fun _ => ⟨w.heap.size, 0, rfl, by simp, fun k hk => ?_⟩⟩
  have hk0 : k = 0 := by simp at hk; omega
  subst hk0
  show (w.alloc (.cells #[.int .u8 (x : Int)] 5)).cell? ⟨w.heap.size, 0, none⟩ = some (.int .u8 (x : Int))
  exact cell_of_block (heap_alloc_new w _) rfl
end Go.Proofs.YtaiklaipdocdmaaDoor
