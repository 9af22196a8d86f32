/- The document's Get: what is in memory. -/
import Derived.Test.YtehnimafjgodeaaDoorOrgm
import Derived.Test.YtehnimafjgodeaaDoorRefRdr
import Derived.Test.YtehnimafjgodeaaDoorOforms1
import Derived.Test.YtehnimafjgodeaaDoorTillD
import Derived.BigRegion
namespace Go.Proofs.YtehnimafjgodeaaDoor
open Go.ChangeShapes Go.WideShapes Go.ChangeAt Go.RowKit
set_option maxRecDepth 100000
attribute [local go_sem] World.cell?_alloc_some frozen_alloc_some

/-- The numbers that were read. -/
structure RG (w wr : World) (v : Value) (bs : List Int) (i : Nat) (lv : Value) (L : List Int) : Prop where
  mr : MR wr (w.heap.size + 1) v i
  rd : Rd wr v bs
  le : i ≤ bs.length
  eq : bs = encL L ++ bs.drop i
  al : ∀ n ∈ L, amt n
  own : wr.ownsRow (w.heap.size + 2) 3 1 lv L.length (L.map (Value.int .i64))
  res : wr.heap[w.heap.size]? = some (.cells #[.int .i64 0, .int .i64 0, .int .i64 0, .int .i64 0, .int .i64 0, .int .i64 0, .int .i64 0, .int .i64 0, .slice none 0 0, .int .i64 0] 28 (0, 0))
  bel : Below w.heap.size w wr
  sz : w.heap.size + 2 ≤ wr.heap.size
theorem RG.below {w wr w' : World} {v : Value} {bs : List Int} {i : Nat} {lv : Value} {L : List Int} (h : RG w wr v bs i lv L) (hb : Below wr.heap.size wr w') : RG w w' v bs i lv L :=
  ⟨h.mr.late hb, h.rd.later hb, h.le, h.eq, h.al, ownN_kept h.own (kept_of_below hb) (fun k e hge => by have := (h.own.lt k e).2; omega), by rw [hb.block _ (by have := h.sz; omega)]; exact h.res, bt h.bel hb, Nat.le_trans h.sz hb.size⟩
/-- A number was read. -/
theorem RG.read {w wr w' : World} {v : Value} {bs : List Int} {i N : Nat} {lv : Value} {L r : List Int} (h : RG w wr v bs i lv L) (h0 : Rd w v bs) (hk : Kept (fun j => j = w.heap.size + 1) wr w') (hm : MR w' (w.heap.size + 1) v (i + (enc N).length)) (hd : bs.drop i = enc N ++ r) (hN : (N : Int) ≤ 1099511627776) :
    MR w' (w.heap.size + 1) v (i + (enc N).length) ∧ Rd w' v bs ∧ i + (enc N).length ≤ bs.length ∧ bs = encL (L ++ [(N : Int)]) ++ bs.drop (i + (enc N).length) ∧ (∀ n ∈ L ++ [(N : Int)], amt n) ∧ w'.ownsRow (w.heap.size + 2) 3 1 lv L.length (L.map (Value.int .i64)) ∧ w'.heap[w.heap.size]? = some (.cells #[.int .i64 0, .int .i64 0, .int .i64 0, .int .i64 0, .int .i64 0, .int .i64 0, .int .i64 0, .int .i64 0, .slice none 0 0, .int .i64 0] 28 (0, 0)) ∧ Below w.heap.size w w' ∧ w.heap.size + 2 ≤ w'.heap.size := by
  have hsz := h.sz
  have hlen := congrArg List.length hd
  rw [List.length_drop, List.length_append] at hlen
  have hpos := enc_len_pos N
  have hdr : bs.drop (i + (enc N).length) = r := by rw [← List.drop_drop, hd, List.drop_left]
  refine ⟨hm, h0.later (h.bel.trans (hk.below (fun k e => by omega) h.bel.size)), by omega, ?_, ?_, ownN_kept h.own hk (fun k e e2 => by have := (h.own.lt k e).1; omega), by rw [hk.block _ (by omega) (by omega)]; exact h.res, h.bel.trans (hk.below (fun k e => by omega) h.bel.size), Nat.le_trans hsz hk.size⟩
  · rw [encL_append, hdr, show encL [(N : Int)] = enc N by rw [encL_cons, encL_nil, List.append_nil, Int.toNat_natCast], List.append_assoc, ← hd]
    exact h.eq
  · intro n hn
    rcases List.mem_append.mp hn with hn | hn
    · exact h.al n hn
    · simp at hn; subst hn; exact ⟨by omega, hN⟩
def lenV : Value → Nat
  | .slice _ n _ => n
  | _ => 0
/-- What the document's Get answers. -/
def RGetPost (w : World) (bs : List Int) (r : Ending) (w' : World) : Prop :=
  (∃ t : Ep, inF t.1 ∧ bs = bytesE t.1 ∧ r = .returned (.tuple #[vP t, .bool true]) ∧ w'.ownsRow w.heap.size 68 4 (tv t) t.1.ts.length (t.1.ts.flatMap c4) ∧ Below w.heap.size w w') ∨
  ((∀ e, inF e → bs ≠ bytesE e) ∧ r = .returned (.tuple #[zE, .bool false]) ∧ Below w.heap.size w w')
theorem int1 (w : World) (N : Int) : Src Tryd.prog 1 79 (.slice (some ⟨w.heap.size, 0, none⟩) 1 1) 1 [.int .i64 N] (w.alloc (.cells #[.int .i64 N] 3)) := src_ints w [N] _ 1 rfl rfl
theorem refrnum_no (w : World) (m : Nat) (v : Value) (bs : List Int) (i : Nat) (most : Int) (hM : MR w m v i) (h : Rd w v bs) (hi : i ≤ bs.length) (hl : (bs.length : Int) ≤ 140737488355328) (hno : ∀ (N : Nat) (r : List Int), (N : Int) ≤ most → bs.drop i ≠ enc N ++ r) :
    Calls Tryd.prog 49 #[.pointer (some ⟨m, 0, none⟩), .int .i64 most] w fun e w' => e = .returned (.tuple #[.int .i64 0, .int .i64 3]) ∧ Below w.heap.size w w' := by
  by_cases hd : ∃ (N : Nat) (r : List Int), (N : Int) ≤ 9223372036854775807 ∧ bs.drop i = enc N ++ r
  · obtain ⟨N, r, hN, hd⟩ := hd
    exact refrnum_much w m v bs i N r most hM h hi hl hN hd (Int.not_le.mp fun h => hno N r h hd)
  · exact refrnum_none w m v bs i most hM h hi hl (fun N r hN e => hd ⟨N, r, hN, e⟩)
theorem RG.grown {w w' w3 : World} {v v3 : Value} {bs : List Int} {i : Nat} {la : Option Addr} {lc : Nat} {L : List Int} {N : Int} {o : Obj}
    (h : MR w' (w.heap.size + 1) v i ∧ Rd w' v bs ∧ i ≤ bs.length ∧ bs = encL (L ++ [N]) ++ bs.drop i ∧ (∀ n ∈ L ++ [N], amt n) ∧ w'.ownsRow (w.heap.size + 2) 3 1 (.slice la L.length lc) L.length (L.map (Value.int .i64)) ∧ w'.heap[w.heap.size]? = some (.cells #[.int .i64 0, .int .i64 0, .int .i64 0, .int .i64 0, .int .i64 0, .int .i64 0, .int .i64 0, .int .i64 0, .slice none 0 0, .int .i64 0] 28 (0, 0)) ∧ Below w.heap.size w w' ∧ w.heap.size + 2 ≤ w'.heap.size) (h0 : Rd w v bs)
    (ho : w3.ownsRow (w.heap.size + 2) 3 1 v3 (L.length + 1) (L.map (Value.int .i64) ++ [.int .i64 N])) (hg : (w'.alloc o).grownBy w3 (Value.slice la L.length lc).ownBlock) : RG w w3 v bs i v3 (L ++ [N]) := by
  obtain ⟨h1, _, h3, h4, h5, h6, h7, h8, h9⟩ := h
  have b1 : Below w'.heap.size w' (w'.alloc o) := ba (Below.refl _ _) _
  have hk := Kept.grown hg (F := fun k => (Value.slice la L.length lc).ownBlock = some k) (fun k hk => hk)
  have hk2 : Kept (fun k => (Value.slice la L.length lc).ownBlock = some k) w' w3 := (Kept.alloc _ w' o).trans hk (fun _ h => .inl h)
  have hn : ∀ k, k < w.heap.size + 2 → ¬ (Value.slice la L.length lc).ownBlock = some k := fun k hk e => by have := (h6.lt k e).1; omega
  refine ⟨?_, h0.later (h8.trans (hk2.below (fun k e => by have := (h6.lt k e).1; omega) h8.size)), h3, h4, h5, by simpa using ho, by rw [hk2.block _ (by omega) (hn _ (by omega))]; exact h7, h8.trans (hk2.below (fun k e => by have := (h6.lt k e).1; omega) h8.size), Nat.le_trans h9 hk2.size⟩
  unfold MR
  rw [hk2.block _ (by omega) (hn _ (by omega))]
  exact h1
/-- The document's Get, behind the numbers: the entry's block E, its first j tasks; the numbers L in the block g. -/
structure RE (w wr : World) (E g : Nat) (L : List Int) (cl nu ki id sk sq st po tm : Int) (ts : List Tk) (j : Nat) (ta : Option Addr) (tc : Nat) : Prop where
  blk : wr.heap[E]? = some (.cells #[.int .i64 cl, .int .i64 nu, .int .i64 ki, .int .i64 id, .int .i64 sk, .int .i64 sq, .int .i64 st, .int .i64 po, .slice ta j tc, .int .i64 tm] 28 (0, 0))
  res : wr.heap[w.heap.size]? = some (.cells #[.int .i64 0, .int .i64 0, .int .i64 0, .int .i64 0, .int .i64 0, .int .i64 0, .int .i64 0, .int .i64 0, .slice none 0 0, .int .i64 0] 28 (0, 0))
  own : wr.ownsRow (w.heap.size + 1) 68 4 (.slice ta j tc) j ((ts.take j).flatMap c4)
  ne : ∀ k, (Value.slice ta j tc).ownBlock = some k → k ≠ E ∧ k ≠ g
  row : Row wr g 0 L
  hE : w.heap.size < E
  hg : w.heap.size < g
  gE : g ≠ E
  gl : g < wr.heap.size
  bel : Below w.heap.size w wr
theorem Row.kept {F : Nat → Prop} {w w' : World} {g o : Nat} {L : List Int} (h : Row w g o L) (hk : Kept F w w') (hn : ¬ F g) : Row w' g o L := fun i x hx => hk.cell (h i x hx) hn
theorem RE.below {w wr w' : World} {E g : Nat} {L : List Int} {cl nu ki id sk sq st po tm : Int} {ts : List Tk} {j : Nat} {ta : Option Addr} {tc : Nat} (h : RE w wr E g L cl nu ki id sk sq st po tm ts j ta tc) (hb : Below wr.heap.size wr w') : RE w w' E g L cl nu ki id sk sq st po tm ts j ta tc :=
  ⟨by rw [hb.block E (lt_of_heap h.blk)]; exact h.blk, by rw [hb.block _ (lt_of_heap h.res)]; exact h.res, own4_below h.own hb, h.ne, h.row.kept (kept_of_below hb) (by have := h.gl; omega), h.hE, h.hg, h.gE, Nat.lt_of_lt_of_le h.gl hb.size, bt h.bel hb⟩
theorem RE.grown {w wr w' : World} {E g : Nat} {L : List Int} {cl nu ki id sk sq st po tm : Int} {ts : List Tk} {j : Nat} {ta ta2 : Option Addr} {tc tc2 : Nat} {x : Tk} (h : RE w wr E g L cl nu ki id sk sq st po tm ts j ta tc) (hx : ts[j]? = some x) (ho : w'.ownsRow (w.heap.size + 1) 68 4 (.slice ta2 (j + 1) tc2) (j + 1) ((ts.take j).flatMap c4 ++ c4 x)) (hg : wr.grownBy w' (Value.slice ta j tc).ownBlock) (hv : (Value.slice ta2 (j + 1) tc2).ownBlock = (Value.slice ta j tc).ownBlock ∨ (Value.slice ta2 (j + 1) tc2).ownBlock = some wr.heap.size) :
    w'.heap[E]? = some (.cells #[.int .i64 cl, .int .i64 nu, .int .i64 ki, .int .i64 id, .int .i64 sk, .int .i64 sq, .int .i64 st, .int .i64 po, .slice ta j tc, .int .i64 tm] 28 (0, 0)) ∧ RE w (w'.setCell ⟨E, 8, none⟩ (.slice ta2 (j + 1) tc2)) E g L cl nu ki id sk sq st po tm ts (j + 1) ta2 tc2 := by
  have hEl : E < wr.heap.size := lt_of_heap h.blk
  have hgl := h.gl
  have hk := Kept.grown hg (F := fun k => (Value.slice ta j tc).ownBlock = some k) (fun k hk => hk)
  have hb' : w'.heap[E]? = some (.cells #[.int .i64 cl, .int .i64 nu, .int .i64 ki, .int .i64 id, .int .i64 sk, .int .i64 sq, .int .i64 st, .int .i64 po, .slice ta j tc, .int .i64 tm] 28 (0, 0)) := by
    rw [hk.block E hEl (fun e => (h.ne E e).1 rfl)]; exact h.blk
  have hne2 : ∀ k, (Value.slice ta2 (j + 1) tc2).ownBlock = some k → k ≠ E ∧ k ≠ g := by
    intro k e
    rcases hv with a | a
    · exact h.ne k (a ▸ e)
    · rw [a] at e; simp at e; omega
  have k2 := Kept.setCell (F := fun k => k = E) w' (p := ⟨E, 8, none⟩) rfl (.slice ta2 (j + 1) tc2)
  have hnr : ¬ (Value.slice ta j tc).ownBlock = some w.heap.size := fun e => by have := (h.own.lt _ e).1; omega
  refine ⟨hb', by rw [heap_set hb']; rfl, ?_, own4_kept ?_ k2 (fun k e => (hne2 k e).1), hne2, (h.row.kept hk (fun e => (h.ne g e).2 rfl)).kept k2 h.gE, h.hE, h.hg, h.gE, Nat.lt_of_lt_of_le hgl (Nat.le_trans hk.size k2.size), ?_⟩
  · rw [k2.block _ (by have := h.hE; have := hk.size; omega) (by have := h.hE; omega), hk.block _ (lt_of_heap h.res) hnr]
    exact h.res
  · rw [List.take_add_one, hx, List.flatMap_append]
    simpa using ho
  · exact (h.bel.trans (hk.below (fun k e => by have := (h.own.lt k e).1; omega) h.bel.size)).trans (k2.below (fun k e => by have := h.hE; omega) (by have := h.bel.size; have := hk.size; omega))
theorem S9_of_row {W : World} {g : Nat} {L : List Int} {cl nu ki id sk sq st po tm : Int} {ts : List Tk} (h : Row W g 0 L) (e : nums ⟨cl, nu, ki, id, sk, sq, st, po, ts, tm⟩ = L) : W.cell? ⟨g, 0, none⟩ = some (.int .i64 cl) ∧ W.cell? ⟨g, 1, none⟩ = some (.int .i64 nu) ∧ W.cell? ⟨g, 2, none⟩ = some (.int .i64 ki) ∧ W.cell? ⟨g, 3, none⟩ = some (.int .i64 tm) ∧ W.cell? ⟨g, 4, none⟩ = some (.int .i64 id) ∧ W.cell? ⟨g, 5, none⟩ = some (.int .i64 sk) ∧ W.cell? ⟨g, 6, none⟩ = some (.int .i64 sq) ∧ W.cell? ⟨g, 7, none⟩ = some (.int .i64 st) ∧ W.cell? ⟨g, 8, none⟩ = some (.int .i64 po) := by
  subst e
  have hr2 : ∀ i x, (nums ⟨cl, nu, ki, id, sk, sq, st, po, ts, tm⟩)[i]? = some x → W.cell? ⟨g, i, none⟩ = some (.int .i64 x) := fun i x q => by have := h i x q; rwa [Nat.zero_add] at this
  exact ⟨hr2 0 _ rfl, hr2 1 _ rfl, hr2 2 _ rfl, hr2 3 _ rfl, hr2 4 _ rfl, hr2 5 _ rfl, hr2 6 _ rfl, hr2 7 _ rfl, hr2 8 _ rfl⟩
theorem tnum_at {e : En} {j : Nat} {x : Tk} (hx : e.ts[j]? = some x) (r : Nat) (hr : r < 4) : (nums e)[10 + 4 * j + r]? = (tnum x)[r]? := by
  have h : (e.ts.flatMap tnum)[j * 4 + r]? = (tnum x)[r]? := by
    generalize e.ts = ts at hx
    induction ts generalizing j with
    | nil => simp at hx
    | cons y l ih =>
      rw [List.flatMap_cons]
      cases j with
      | zero =>
        simp at hx
        subst hx
        rw [List.getElem?_append_left (by simp [tnum]; omega)]
        simp
      | succ j =>
        rw [List.getElem?_append_right (by simp [tnum]; omega), ← ih (j := j) (by simpa using hx)]
        congr 1
        simp [tnum]
        omega
  rw [← h]
  unfold nums
  rw [List.getElem?_append_right (by simp [hnum]; omega), show 10 + 4 * j + r - (hnum e).length = (j * 4 + r) + 1 by simp [hnum]; omega, List.getElem?_cons_succ]
end Go.Proofs.YtehnimafjgodeaaDoor
