import Derived.Test.YtaiklaipdocdmaaDoorOrgm
import Derived.Test.YtaiklaipdocdmaaDoorRrX
import Derived.Test.YtaiklaipdocdmaaDoorOfX
import Derived.Test.YtaiklaipdocdmaaDoorTillD
import Derived.BigRegion
/- The document's Get: what is in memory. -/
namespace Go.Proofs.YtaiklaipdocdmaaDoor
open Go.ChangeShapes Go.WideShapes Go.ChangeAt Go.RowKit
set_option maxRecDepth 100000
attribute [local go_sem] World.cell?_alloc_some frozen_alloc_some

/-- The numbers that were read. -/
structure RG (w wr : World) (v : Value) (bs : List Int) (i : Nat) (lv : Value) (L : List Int) : Prop where
  mr : MR wr (w.heap.size + 1) v i
  rd : Rd wr v bs
  le : i ≤ bs.length
  eq : bs = encL L ++ bs.drop i
  al : ∀ n ∈ L, amt n
  own : wr.ownsRow (w.heap.size + 2) 3 1 lv L.length (L.map (Value.int .i64))
  res : wr.heap[w.heap.size]? = some (.cells #[.int .i64 0, .int .i64 0, .int .i64 0, .int .i64 0, .int .i64 0, .int .i64 0, .int .i64 0, .int .i64 0, .slice none 0 0, .int .i64 0] 96 (0, 0))
  bel : Below w.heap.size w wr
  sz : w.heap.size + 2 ≤ wr.heap.size
theorem RG.below {w wr w' : World} {v : Value} {bs : List Int} {i : Nat} {lv : Value} {L : List Int} (h : RG w wr v bs i lv L) (hb : Below wr.heap.size wr w') : RG w w' v bs i lv L :=
  ⟨h.mr.late hb, h.rd.later hb, h.le, h.eq, h.al, ownN_kept h.own (kept_of_below hb) (fun k e hge => by have := (h.own.lt k e).2; omega), by rw [hb.block _ (by have := h.sz; omega)]; exact h.res, bt h.bel hb, Nat.le_trans h.sz hb.size⟩
/-- A number was read. -/
theorem RG.read {w wr w' : World} {v : Value} {bs : List Int} {i N : Nat} {lv : Value} {L r : List Int} (h : RG w wr v bs i lv L) (h0 : Rd w v bs) (hk : Kept (fun j => j = w.heap.size + 1) wr w') (hm : MR w' (w.heap.size + 1) v (i + (enc N).length)) (hd : bs.drop i = enc N ++ r) (hN : (N : Int) ≤ 1099511627776) :
    MR w' (w.heap.size + 1) v (i + (enc N).length) ∧ Rd w' v bs ∧ i + (enc N).length ≤ bs.length ∧ bs = encL (L ++ [(N : Int)]) ++ bs.drop (i + (enc N).length) ∧ (∀ n ∈ L ++ [(N : Int)], amt n) ∧ w'.ownsRow (w.heap.size + 2) 3 1 lv L.length (L.map (Value.int .i64)) ∧ w'.heap[w.heap.size]? = some (.cells #[.int .i64 0, .int .i64 0, .int .i64 0, .int .i64 0, .int .i64 0, .int .i64 0, .int .i64 0, .int .i64 0, .slice none 0 0, .int .i64 0] 96 (0, 0)) ∧ Below w.heap.size w w' ∧ w.heap.size + 2 ≤ w'.heap.size := by
  have hsz := h.sz
  have hlen := congrArg List.length hd
  rw [List.length_drop, List.length_append] at hlen
  have hpos := enc_len_pos N
  have hdr : bs.drop (i + (enc N).length) = r := by rw [← List.drop_drop, hd, List.drop_left]
  refine ⟨hm, h0.later (h.bel.trans (hk.below (fun k e => by omega) h.bel.size)), by omega, ?_, ?_, ownN_kept h.own hk (fun k e e2 => by have := (h.own.lt k e).1; omega), by rw [hk.block _ (by omega) (by omega)]; exact h.res, h.bel.trans (hk.below (fun k e => by omega) h.bel.size), Nat.le_trans hsz hk.size⟩
  · rw [encL_append, hdr, show encL [(N : Int)] = enc N by rw [encL_cons, encL_nil, List.append_nil, Int.toNat_natCast], List.append_assoc, ← hd]
    exact h.eq
  · intro n hn
    rcases List.mem_append.mp hn with hn | hn
    · exact h.al n hn
    · simp at hn; subst hn; exact ⟨by omega, hN⟩
def lenV : Value → Nat
  | .slice _ n _ => n
  | _ => 0
/-- What the document's Get answers. -/
def RGetPost (w : World) (bs : List Int) (r : Ending) (w' : World) : Prop :=
  (∃ t : Ep, inF t.1 ∧ bs = bytesE t.1 ∧ r = .returned (.tuple #[vP t, .bool true]) ∧ w'.ownsRow w.heap.size 158 4 (tv t) t.1.ts.length (t.1.ts.flatMap c4) ∧ Below w.heap.size w w') ∨
  ((∀ e, inF e → bs ≠ bytesE e) ∧ r = .returned (.tuple #[zE, .bool false]) ∧ Below w.heap.size w w')
theorem int1 (w : World) (N : Int) : Src Tryd.prog 1 53 (.slice (some ⟨w.heap.size, 0, none⟩) 1 1) 1 [.int .i64 N] (w.alloc (.cells #[.int .i64 N] 3)) := src_ints w [N] _ 1 rfl rfl
theorem refrnum_no (w : World) (m : Nat) (v : Value) (bs : List Int) (i : Nat) (most : Int) (hM : MR w m v i) (h : Rd w v bs) (hi : i ≤ bs.length) (hl : (bs.length : Int) ≤ 140737488355328) (hno : ∀ (N : Nat) (r : List Int), (N : Int) ≤ most → bs.drop i ≠ enc N ++ r) :
    Calls Tryd.prog 61 #[.pointer (some ⟨m, 0, none⟩), .int .i64 most] w fun e w' => e = .returned (.tuple #[.int .i64 0, .int .i64 3]) ∧ Below w.heap.size w w' := by
  by_cases hd : ∃ (N : Nat) (r : List Int), (N : Int) ≤ 9223372036854775807 ∧ bs.drop i = enc N ++ r
  · obtain ⟨N, r, hN, hd⟩ := hd
    exact refrnum_much w m v bs i N r most hM h hi hl hN hd (Int.not_le.mp fun h => hno N r h hd)
  · exact refrnum_none w m v bs i most hM h hi hl (fun N r hN e => hd ⟨N, r, hN, e⟩)
theorem RG.grown {w w' w3 : World} {v v3 : Value} {bs : List Int} {i : Nat} {la : Option Addr} {lc : Nat} {L : List Int} {N : Int} {o : Obj}
    (h : MR w' (w.heap.size + 1) v i ∧ Rd w' v bs ∧ i ≤ bs.length ∧ bs = encL (L ++ [N]) ++ bs.drop i ∧ (∀ n ∈ L ++ [N], amt n) ∧ w'.ownsRow (w.heap.size + 2) 3 1 (.slice la L.length lc) L.length (L.map (Value.int .i64)) ∧ w'.heap[w.heap.size]? = some (.cells #[.int .i64 0, .int .i64 0, .int .i64 0, .int .i64 0, .int .i64 0, .int .i64 0, .int .i64 0, .int .i64 0, .slice none 0 0, .int .i64 0] 96 (0, 0)) ∧ Below w.heap.size w w' ∧ w.heap.size + 2 ≤ w'.heap.size) (h0 : Rd w v bs)
    (ho : w3.ownsRow (w.heap.size + 2) 3 1 v3 (L.length + 1) (L.map (Value.int .i64) ++ [.int .i64 N])) (hg : (w'.alloc o).grownBy w3 (Value.slice la L.length lc).ownBlock) : RG w w3 v bs i v3 (L ++ [N]) := by
  obtain ⟨h1, _, h3, h4, h5, h6, h7, h8, h9⟩ := h
  have b1 : Below w'.heap.size w' (w'.alloc o) := ba (Below.refl _ _) _
  have hk := Kept.grown hg (F := fun k => (Value.slice la L.length lc).ownBlock = some k) (fun k hk => hk)
  have hk2 : Kept (fun k => (Value.slice la L.length lc).ownBlock = some k) w' w3 := (Kept.alloc _ w' o).trans hk (fun _ h => .inl h)
  have hn : ∀ k, k < w.heap.size + 2 → ¬ (Value.slice la L.length lc).ownBlock = some k := fun k hk e => by have := (h6.lt k e).1; omega
  refine ⟨?_, h0.later (h8.trans (hk2.below (fun k e => by have := (h6.lt k e).1; omega) h8.size)), h3, h4, h5, by simpa using ho, by rw [hk2.block _ (by omega) (hn _ (by omega))]; exact h7, h8.trans (hk2.below (fun k e => by have := (h6.lt k e).1; omega) h8.size), Nat.le_trans h9 hk2.size⟩
  unfold MR
  rw [hk2.block _ (by omega) (hn _ (by omega))]
  exact h1
/-- The document's Get, behind the numbers: the entry's block E, its first j tasks; the numbers L in the block g. -/
structure RE (w wr : World) (E g : Nat) (L : List Int) (cl nu ki id sk sq st po tm : Int) (ts : List Tk) (j : Nat) (ta : Option Addr) (tc : Nat) : Prop where
  blk : wr.heap[E]? = some (.cells #[.int .i64 cl, .int .i64 nu, .int .i64 ki, .int .i64 id, .int .i64 sk, .int .i64 sq, .int .i64 st, .int .i64 po, .slice ta j tc, .int .i64 tm] 96 (0, 0))
  res : wr.heap[w.heap.size]? = some (.cells #[.int .i64 0, .int .i64 0, .int .i64 0, .int .i64 0, .int .i64 0, .int .i64 0, .int .i64 0, .int .i64 0, .slice none 0 0, .int .i64 0] 96 (0, 0))
  own : wr.ownsRow (w.heap.size + 1) 158 4 (.slice ta j tc) j ((ts.take j).flatMap c4)
  ne : ∀ k, (Value.slice ta j tc).ownBlock = some k → k ≠ E ∧ k ≠ g
  row : Row wr g 0 L
  hE : w.heap.size < E
  hg : w.heap.size < g
  gE : g ≠ E
  gl : g < wr.heap.size
  bel : Below w.heap.size w wr
theorem Row.kept {F : Nat → Prop} {w w' : World} {g o : Nat} {L : List Int} (h : Row w g o L) (hk : Kept F w w') (hn : ¬ F g) : Row w' g o L := fun i x hx => hk.cell (h i x hx) hn
theorem RE.below {w wr w' : World} {E g : Nat} {L : List Int} {cl nu ki id sk sq st po tm : Int} {ts : List Tk} {j : Nat} {ta : Option Addr} {tc : Nat} (h : RE w wr E g L cl nu ki id sk sq st po tm ts j ta tc) (hb : Below wr.heap.size wr w') : RE w w' E g L cl nu ki id sk sq st po tm ts j ta tc :=
  ⟨by rw [hb.block E (lt_of_heap h.blk)]; exact h.blk, by rw [hb.block _ (lt_of_heap h.res)]; exact h.res, own4_below h.own hb, h.ne, h.row.kept (kept_of_below hb) (by have := h.gl; omega), h.hE, h.hg, h.gE, Nat.lt_of_lt_of_le h.gl hb.size, bt h.bel hb⟩
theorem RE.grown {w wr w' : World} {E g : Nat} {L : List Int} {cl nu ki id sk sq st po tm : Int} {ts : List Tk} {j : Nat} {ta ta2 : Option Addr} {tc tc2 : Nat} {x : Tk} (h : RE w wr E g L cl nu ki id sk sq st po tm ts j ta tc) (hx : ts[j]? = some x) (ho : w'.ownsRow (w.heap.size + 1) 158 4 (.slice ta2 (j + 1) tc2) (j + 1) ((ts.take j).flatMap c4 ++ c4 x)) (hg : wr.grownBy w' (Value.slice ta j tc).ownBlock) (hv : (Value.slice ta2 (j + 1) tc2).ownBlock = (Value.slice ta j tc).ownBlock ∨ (Value.slice ta2 (j + 1) tc2).ownBlock = some wr.heap.size) :
    w'.heap[E]? = some (.cells #[.int .i64 cl, .int .i64 nu, .int .i64 ki, .int .i64 id, .int .i64 sk, .int .i64 sq, .int .i64 st, .int .i64 po, .slice ta j tc, .int .i64 tm] 96 (0, 0)) ∧ RE w (w'.setCell ⟨E, 8, none⟩ (.slice ta2 (j + 1) tc2)) E g L cl nu ki id sk sq st po tm ts (j + 1) ta2 tc2 := by
  have hEl : E < wr.heap.size := lt_of_heap h.blk
  have hgl := h.gl
  have hk := Kept.grown hg (F := fun k => (Value.slice ta j tc).ownBlock = some k) (fun k hk => hk)
  have hb' : w'.heap[E]? = some (.cells #[.int .i64 cl, .int .i64 nu, .int .i64 ki, .int .i64 id, .int .i64 sk, .int .i64 sq, .int .i64 st, .int .i64 po, .slice ta j tc, .int .i64 tm] 96 (0, 0)) := by
    rw [hk.block E hEl (fun e => (h.ne E e).1 rfl)]; exact h.blk
  have hne2 : ∀ k, (Value.slice ta2 (j + 1) tc2).ownBlock = some k → k ≠ E ∧ k ≠ g := by
    intro k e
    rcases hv with a | a
    · exact h.ne k (a ▸ e)
    · rw [a] at e; simp at e; omega
  have k2 := Kept.setCell (F := fun k => k = E) w' (p := ⟨E, 8, none⟩) rfl (.slice ta2 (j + 1) tc2)
  have hnr : ¬ (Value.slice ta j tc).ownBlock = some w.heap.size := fun e => by have := (h.own.lt _ e).1; omega
  refine ⟨hb', by rw [heap_set hb']; rfl, ?_, own4_kept ?_ k2 (fun k e => (hne2 k e).1), hne2, (h.row.kept hk (fun e => (h.ne g e).2 rfl)).kept k2 h.gE, h.hE, h.hg, h.gE, Nat.lt_of_lt_of_le hgl (Nat.le_trans hk.size k2.size), ?_⟩
  · rw [k2.block _ (by have := h.hE; have := hk.size; omega) (by have := h.hE; omega), hk.block _ (lt_of_heap h.res) hnr]
    exact h.res
  · rw [List.take_add_one, hx, List.flatMap_append]
    simpa using ho
  · exact (h.bel.trans (hk.below (fun k e => by have := (h.own.lt k e).1; omega) h.bel.size)).trans (k2.below (fun k e => by have := h.hE; omega) (by have := h.bel.size; have := hk.size; omega))
theorem S9_of_row {W : World} {g : Nat} {L : List Int} {cl nu ki id sk sq st po tm : Int} {ts : List Tk} (h : Row W g 0 L) (e : nums ⟨cl, nu, ki, id, sk, sq, st, po, ts, tm⟩ = L) : W.cell? ⟨g, 0, none⟩ = some (.int .i64 cl) ∧ W.cell? ⟨g, 1, none⟩ = some (.int .i64 nu) ∧ W.cell? ⟨g, 2, none⟩ = some (.int .i64 ki) ∧ W.cell? ⟨g, 3, none⟩ = some (.int .i64 tm) ∧ W.cell? ⟨g, 4, none⟩ = some (.int .i64 id) ∧ W.cell? ⟨g, 5, none⟩ = some (.int .i64 sk) ∧ W.cell? ⟨g, 6, none⟩ = some (.int .i64 sq) ∧ W.cell? ⟨g, 7, none⟩ = some (.int .i64 st) ∧ W.cell? ⟨g, 8, none⟩ = some (.int .i64 po) := by
  subst e
  have hr2 : ∀ i x, (nums ⟨cl, nu, ki, id, sk, sq, st, po, ts, tm⟩)[i]? = some x → W.cell? ⟨g, i, none⟩ = some (.int .i64 x) := fun i x q => by have := h i x q; rwa [Nat.zero_add] at this
  exact ⟨hr2 0 _ rfl, hr2 1 _ rfl, hr2 2 _ rfl, hr2 3 _ rfl, hr2 4 _ rfl, hr2 5 _ rfl, hr2 6 _ rfl, hr2 7 _ rfl, hr2 8 _ rfl⟩
theorem tnum_at {e : En} {j : Nat} {x : Tk} (hx : e.ts[j]? = some x) (r : Nat) (hr : r < 4) : (nums e)[10 + 4 * j + r]? = (tnum x)[r]? := by
  have h : (e.ts.flatMap tnum)[j * 4 + r]? = (tnum x)[r]? := by
    generalize e.ts = ts at hx
    induction ts generalizing j with
    | nil => simp at hx
    | cons y l ih =>
      rw [List.flatMap_cons]
      cases j with
      | zero =>
        simp at hx
        subst hx
        rw [List.getElem?_append_left (by simp [tnum]; omega)]
        simp
      | succ j =>
        rw [List.getElem?_append_right (by simp [tnum]; omega), ← ih (j := j) (by simpa using hx)]
        congr 1
        simp [tnum]
        omega
  rw [← h]
  unfold nums
  rw [List.getElem?_append_right (by simp [hnum]; omega), show 10 + 4 * j + r - (hnum e).length = (j * 4 + r) + 1 by simp [hnum]; omega, List.getElem?_cons_succ]
end Go.Proofs.YtaiklaipdocdmaaDoor

/- The document's Get. -/
namespace Go.Proofs.YtaiklaipdocdmaaDoor
open Go.ChangeShapes Go.WideShapes Go.ChangeAt Go.RowKit
set_option maxRecDepth 100000
attribute [local go_sem] World.cell?_alloc_some frozen_alloc_some

set_option maxHeartbeats 25600000 in
theorem rget_any (w : World) (v : Value) (bs : List Int) (h : Rd w v bs) (hl : (bs.length : Int) ≤ 140737488355328) : Calls Tryd.prog 88 #[v] w (RGetPost w bs) := by
  obtain ⟨ie, hi, hz0, hz1, hz2⟩ := info_parts info_task
  obtain ⟨zth, hzth⟩ : ∃ z : Value, z = .agg #[.int .i64 0, .int .i64 0, .int .i64 0, .int .i64 0] := ⟨_, rfl⟩
  rw [← hzth] at hz0
  have HZ : Hid (zth.cells.size = 4) := mkHid (by rw [hzth]; rfl)
  have hie := mkHid (And.intro hi (And.intro hz0 (And.intro hz1 hz2)))
  clear hzth hi hz0 hz1 hz2
  obtain ⟨i1, hi, hz0, hz1, hz2⟩ := info_parts info_int
  have hie2 := mkHid (And.intro hi (And.intro hz0 (And.intro hz1 hz2)))
  clear hi hz0 hz1 hz2
  obtain ⟨sa, sc, rfl⟩ : ∃ a c, v = .slice a bs.length c := h.2.imp fun a h => h.imp fun c h => h.1
  have HR := mkHid h
  clear h
  go_enter Tryd.func88, Tryd.ntmps88
  go_wp2
  go_loopw [5] (fun lv wr => ∃ (i : Nat) (L : List Int), L.length ≤ 43 ∧ lenV lv = L.length ∧ Hid (RG w wr (.slice sa bs.length sc) bs i lv L)) (fun lv _ => 43 - lenV lv)
  case atStart =>
    refine ⟨0, [], by simp, rfl, mkHid ⟨?_, ?_, by simp, by simp [encL_nil], by simp, ?_, ?_, ba (ba (ba (Below.refl _ w) _) _) _, by simp⟩⟩
    · exact MR.late (w := (w.alloc oZ).alloc (.cells #[.slice sa bs.length sc, .int .i64 0] 117)) (by unfold MR; have := heap_alloc_new (w.alloc oZ) (.cells #[.slice sa bs.length sc, .int .i64 0] 117); simpa using this) (ba (Below.refl _ _) _)
    · exact HR.out.later (ba (ba (ba (Below.refl _ w) _) _) _)
    · have := World.ownsRow_made (base := w.heap.size + 2) (e := 3) (size := 1) ((w.alloc oZ).alloc (.cells #[.slice sa bs.length sc, .int .i64 0] 117)) #[] 0 (by simp) (by unfold maxLen; omega) rfl
      simpa using this
    · exact ((ba (ba (Below.refl _ (w.alloc oZ)) _) _).block w.heap.size (by simp)).trans (heap_alloc_new w oZ)
  case round =>
    obtain ⟨i, L, hL, hlv, HG⟩ := hrel
    obtain ⟨la, lc, rfl⟩ := own_shape HG.out.own
    have m1 : wr.cell? ⟨w.heap.size + 1, 1, none⟩ = some (.int .i64 (i : Int)) := cell_of_block HG.out.mr rfl
    by_cases hlt : i < bs.length
    · have hlt' : (i : Int) < bs.length := by omega
      by_cases h42 : L.length ≤ 42
      · have h42' : (L.length : Int) ≤ 42 := by omega
        by_cases hd : ∃ (N : Nat) (r : List Int), (N : Int) ≤ 1099511627776 ∧ bs.drop i = enc N ++ r
        · obtain ⟨N, r, hN, hd⟩ := hd
          have HD := mkHid hd
          clear hd
          go_wp2_with (first
            | (go_at_call 61; refine (refrnum_yes wr (w.heap.size + 1) _ bs i N r _ HG.out.mr HG.out.rd HG.out.le hl (by omega) HD.out hN).mono ?_; rintro e w2 ⟨rfl, hm2, hk2⟩; have HG2 := mkHid (HG.out.read HR.out hk2 hm2 HD.out hN); have HS2 := mkHid (int1 w2 (N : Int)); have HO2 := mkHid (HG2.out.2.2.2.2.2.1.alloc (.cells #[.int .i64 (N : Int)] 3)); clear hm2 hk2)
            | (at_builtin; refine wpList_append_srcV _ rfl (.tmp 34) (.tmp 36) 53 53 rfl (w.heap.size + 2) 3 i1 Tryd.underlying53 hie2.out.1 (.int .i64 0) 8 hie2.out.2.1 rfl hie2.out.2.2.1 hie2.out.2.2.2 _ _ _ rfl HO2.out _ 1 _ rfl HS2.out (by unfold maxLen; omega) (by omega) (by have := HG2.out.2.2.2.2.2.2.2.2; simp; omega) ?_; intro v3 w3 ho3 hg3 _; have HG3 := mkHid (RG.grown HG2.out HR.out ho3 hg3); have HL3 : Hid (lenV v3 = L.length + 1) := mkHid (by obtain ⟨_, _, e⟩ := own_shape ho3; rw [e]; rfl); clear ho3 hg3))
          go_roundw
          case rel => exact ⟨_, L ++ [(N : Int)], by simp; omega, by rw [HL3.out]; simp, HG3⟩
          case measure => rw [HL3.out]; simp [lenV]; omega
        · have HNO : Hid (∀ (N : Nat) (r : List Int), (N : Int) ≤ 1099511627776 → bs.drop i ≠ enc N ++ r) := mkHid (fun N r hN e => hd ⟨N, r, hN, e⟩)
          have HNE : Hid (bs.drop i ≠ []) := mkHid (fun e => by have := congrArg List.length e; simp at this; omega)
          clear hd
          go_wp2_with (first
            | (go_at_call 61; refine (refrnum_no wr (w.heap.size + 1) _ bs i _ HG.out.mr HG.out.rd HG.out.le hl HNO.out).mono ?_; rintro e w2 ⟨rfl, hb2⟩; have HG2 := mkHid (HG.out.below hb2); obtain ⟨r0, r1, r2, r3, r4, r5, r6, r7, r8, r9⟩ := ent_cells HG2.out.res; obtain ⟨f0, f1, f2, f3, f4, f5, f6, f7, f8, f9⟩ := ent_frozen HG2.out.res; clear hb2))
          exact bodyPost_ret (ent_leaves rfl (set10_heap HG2.out.res _ _ _ _ _ _ _ _ _ _) _ rfl) rfl (.inr ⟨none_err HG.out.al HG.out.eq HNE.out HNO.out, rfl, set10_below HG2.out.bel (Nat.le_refl _) (.int .i64 0) (.int .i64 0) (.int .i64 0) (.int .i64 0) (.int .i64 0) (.int .i64 0) (.int .i64 0) (.int .i64 0) (.slice none 0 0) (.int .i64 0)⟩)
      · have h42' : ¬ (L.length : Int) ≤ 42 := by omega
        have hne : ¬ (i : Int) = bs.length := by omega
        obtain ⟨r0, r1, r2, r3, r4, r5, r6, r7, r8, r9⟩ := ent_cells HG.out.res
        obtain ⟨f0, f1, f2, f3, f4, f5, f6, f7, f8, f9⟩ := ent_frozen HG.out.res
        have HLG : Hid (42 < L.length) := mkHid (by omega)
        go_wp2
        exact bodyPost_ret (ent_leaves rfl (set10_heap HG.out.res _ _ _ _ _ _ _ _ _ _) _ rfl) rfl (.inr ⟨none_long HG.out.al HG.out.eq HLG.out, rfl, set10_below HG.out.bel (Nat.le_refl _) (.int .i64 0) (.int .i64 0) (.int .i64 0) (.int .i64 0) (.int .i64 0) (.int .i64 0) (.int .i64 0) (.int .i64 0) (.slice none 0 0) (.int .i64 0)⟩)
    · have hie : i = bs.length := by have := HG.out.le; omega
      subst hie
      have HEQ : Hid (bs = encL L) := mkHid (by have := HG.out.eq; rwa [List.drop_length, List.append_nil] at this)
      by_cases h10 : L.length < 10
      · have h10' : (L.length : Int) < 10 := by omega
        obtain ⟨r0, r1, r2, r3, r4, r5, r6, r7, r8, r9⟩ := ent_cells HG.out.res
        obtain ⟨f0, f1, f2, f3, f4, f5, f6, f7, f8, f9⟩ := ent_frozen HG.out.res
        have HLG := mkHid h10
        go_wp2
        exact bodyPost_ret (ent_leaves rfl (set10_heap HG.out.res _ _ _ _ _ _ _ _ _ _) _ rfl) rfl (.inr ⟨none_form HG.out.al HEQ.out (fun k h9 _ hk => by have := HLG.out; omega), rfl, set10_below HG.out.bel (Nat.le_refl _) (.int .i64 0) (.int .i64 0) (.int .i64 0) (.int .i64 0) (.int .i64 0) (.int .i64 0) (.int .i64 0) (.int .i64 0) (.slice none 0 0) (.int .i64 0)⟩)
      · have h10' : ¬ (L.length : Int) < 10 := by omega
        obtain ⟨k9, hk9⟩ : ∃ k9, L[9]? = some k9 := ⟨_, List.getElem?_eq_getElem (by omega)⟩
        obtain ⟨hp0, hp1⟩ := HG.out.al k9 (List.mem_of_getElem? hk9)
        obtain ⟨k, rfl⟩ := Int.eq_ofNat_of_zero_le hp0
        obtain ⟨g, gc, hge, hrow⟩ := row_of_owns (by omega) HG.out.own
        simp only [Value.slice.injEq] at hge
        obtain ⟨rfl, _, rfl⟩ := hge
        have q9 := hrow 9 _ hk9
        rw [Nat.zero_add] at q9
        have HK9 := mkHid hk9
        have HRW := mkHid hrow
        clear hk9 hrow hp0
        by_cases h8 : 8 < k
        · have h8' : (8 : Int) < k := by omega
          obtain ⟨r0, r1, r2, r3, r4, r5, r6, r7, r8, r9⟩ := ent_cells HG.out.res
          obtain ⟨f0, f1, f2, f3, f4, f5, f6, f7, f8, f9⟩ := ent_frozen HG.out.res
          have HLG := mkHid h8
          clear hp1
          go_wp2
          exact bodyPost_ret (ent_leaves rfl (set10_heap HG.out.res _ _ _ _ _ _ _ _ _ _) _ rfl) rfl (.inr ⟨none_form HG.out.al HEQ.out (fun j h9 h8 _ => by have e := HK9.out.symm.trans h9; simp at e; have := HLG.out; omega), rfl, set10_below HG.out.bel (Nat.le_refl _) (.int .i64 0) (.int .i64 0) (.int .i64 0) (.int .i64 0) (.int .i64 0) (.int .i64 0) (.int .i64 0) (.int .i64 0) (.slice none 0 0) (.int .i64 0)⟩)
        have h8' : ¬ (8 : Int) < k := by omega
        clear hp1
        by_cases hln : L.length = 10 + 4 * k
        case neg =>
          obtain ⟨r0, r1, r2, r3, r4, r5, r6, r7, r8, r9⟩ := ent_cells HG.out.res
          obtain ⟨f0, f1, f2, f3, f4, f5, f6, f7, f8, f9⟩ := ent_frozen HG.out.res
          have hln' : ((L.length : Int) == 10 + 4 * (k : Int)) = false := by simp; omega
          have HLG := mkHid hln
          clear hln
          go_wp2
          exact bodyPost_ret (ent_leaves rfl (set10_heap HG.out.res _ _ _ _ _ _ _ _ _ _) _ rfl) rfl (.inr ⟨none_form HG.out.al HEQ.out (fun j h9 _ hk => by have e := HK9.out.symm.trans h9; simp at e; have := HLG.out; omega), rfl, set10_below HG.out.bel (Nat.le_refl _) (.int .i64 0) (.int .i64 0) (.int .i64 0) (.int .i64 0) (.int .i64 0) (.int .i64 0) (.int .i64 0) (.int .i64 0) (.slice none 0 0) (.int .i64 0)⟩)
        obtain ⟨⟨cl, nu, ki, id, sk, sq, st, po, ts, tm⟩, hnums, hts⟩ := form_of HK9.out hln
        simp only at hts
        subst hts
        have hLl : (L.length : Int) = 10 + 4 * (ts.length : Int) := by omega
        have HNM := mkHid hnums
        obtain ⟨q0, q1, q2, q3, q4, q5, q6, q7, q8⟩ : (wr.cell? ⟨g, 0, none⟩ = some (.int .i64 cl) ∧ wr.cell? ⟨g, 1, none⟩ = some (.int .i64 nu) ∧ wr.cell? ⟨g, 2, none⟩ = some (.int .i64 ki) ∧ wr.cell? ⟨g, 3, none⟩ = some (.int .i64 tm) ∧ wr.cell? ⟨g, 4, none⟩ = some (.int .i64 id) ∧ wr.cell? ⟨g, 5, none⟩ = some (.int .i64 sk) ∧ wr.cell? ⟨g, 6, none⟩ = some (.int .i64 sq) ∧ wr.cell? ⟨g, 7, none⟩ = some (.int .i64 st) ∧ wr.cell? ⟨g, 8, none⟩ = some (.int .i64 po)) := by
          have hr := HRW.out
          rw [← hnums] at hr
          have hr2 : ∀ i x, (nums ⟨cl, nu, ki, id, sk, sq, st, po, ts, tm⟩)[i]? = some x → wr.cell? ⟨g, i, none⟩ = some (.int .i64 x) := fun i x h => by have := hr i x h; rwa [Nat.zero_add] at this
          exact ⟨hr2 0 _ rfl, hr2 1 _ rfl, hr2 2 _ rfl, hr2 3 _ rfl, hr2 4 _ rfl, hr2 5 _ rfl, hr2 6 _ rfl, hr2 7 _ rfl, hr2 8 _ rfl⟩
        have hgl := HG.out.own.lt g rfl
        have HGL := mkHid hgl
        clear hnums hgl hln
        go_wp2
        have HLl := mkHid hLl
        clear hLl
        have bn : ¬ L = [] := fun e => by rw [e] at h10; simp at h10
        have b0 : ¬ (L.length : Int) ≤ 0 := by have := HLl.out; omega
        have b1 : ¬ (L.length : Int) ≤ 1 := by have := HLl.out; omega
        have b2 : ¬ (L.length : Int) ≤ 2 := by have := HLl.out; omega
        have b3 : ¬ (L.length : Int) ≤ 3 := by have := HLl.out; omega
        have b4 : ¬ (L.length : Int) ≤ 4 := by have := HLl.out; omega
        have b5 : ¬ (L.length : Int) ≤ 5 := by have := HLl.out; omega
        have b6 : ¬ (L.length : Int) ≤ 6 := by have := HLl.out; omega
        have b7 : ¬ (L.length : Int) ≤ 7 := by have := HLl.out; omega
        have b8 : ¬ (L.length : Int) ≤ 8 := by have := HLl.out; omega
        refine wp_region_held_drew (S := fun w' => w'.cell? ⟨g, 0, none⟩ = some (.int .i64 cl) ∧ w'.cell? ⟨g, 1, none⟩ = some (.int .i64 nu) ∧ w'.cell? ⟨g, 2, none⟩ = some (.int .i64 ki) ∧ w'.cell? ⟨g, 3, none⟩ = some (.int .i64 tm) ∧ w'.cell? ⟨g, 4, none⟩ = some (.int .i64 id) ∧ w'.cell? ⟨g, 5, none⟩ = some (.int .i64 sk) ∧ w'.cell? ⟨g, 6, none⟩ = some (.int .i64 sq) ∧ w'.cell? ⟨g, 7, none⟩ = some (.int .i64 st) ∧ w'.cell? ⟨g, 8, none⟩ = some (.int .i64 po)) (by kernel_rfl) ⟨q0, q1, q2, q3, q4, q5, q6, q7, q8⟩ (fun hHeld => ?_)
        refine takeD 0 67 (.slice (some ⟨g, 0, none⟩) L.length lc) rfl rfl (by kernel_rfl) (by kernel_rfl) (by kernel_rfl) (fun _ _ _ h => h) (Or.inl ⟨by kernel_rfl, by intro w hSw; (try dsimp only at hSw); go_simp⟩) hHeld ?_
        simp only [List.set_cons_zero, List.set_cons_succ]
        refine takeD 1 68 (.pointer (some ⟨g, 0, none⟩)) rfl rfl (by kernel_rfl) (by kernel_rfl) (by kernel_rfl) (fun _ _ _ h => h) (Or.inl ⟨by kernel_rfl, by intro w hSw; (try dsimp only at hSw); go_simp⟩) hHeld ?_
        simp only [List.set_cons_zero, List.set_cons_succ]
        refine takeD 2 69 (.int .i64 cl) rfl rfl (by kernel_rfl) (by kernel_rfl) (by kernel_rfl) (fun _ _ _ h => h) (Or.inl ⟨by kernel_rfl, by intro w hSw; (try dsimp only at hSw); go_simp⟩) hHeld ?_
        simp only [List.set_cons_zero, List.set_cons_succ]
        refine takeD 3 70 (.slice (some ⟨g, 0, none⟩) L.length lc) rfl rfl (by kernel_rfl) (by kernel_rfl) (by kernel_rfl) (fun _ _ _ h => h) (Or.inl ⟨by kernel_rfl, by intro w hSw; (try dsimp only at hSw); go_simp⟩) hHeld ?_
        simp only [List.set_cons_zero, List.set_cons_succ]
        refine takeD 4 71 (.pointer (some ⟨g, 1, none⟩)) rfl rfl (by kernel_rfl) (by kernel_rfl) (by kernel_rfl) (fun _ _ _ h => h) (Or.inl ⟨by kernel_rfl, by intro w hSw; (try dsimp only at hSw); go_simp⟩) hHeld ?_
        simp only [List.set_cons_zero, List.set_cons_succ]
        refine takeD 5 72 (.int .i64 nu) rfl rfl (by kernel_rfl) (by kernel_rfl) (by kernel_rfl) (fun _ _ _ h => h) (Or.inl ⟨by kernel_rfl, by intro w hSw; (try dsimp only at hSw); go_simp⟩) hHeld ?_
        simp only [List.set_cons_zero, List.set_cons_succ]
        refine takeD 6 73 (.slice (some ⟨g, 0, none⟩) L.length lc) rfl rfl (by kernel_rfl) (by kernel_rfl) (by kernel_rfl) (fun _ _ _ h => h) (Or.inl ⟨by kernel_rfl, by intro w hSw; (try dsimp only at hSw); go_simp⟩) hHeld ?_
        simp only [List.set_cons_zero, List.set_cons_succ]
        refine takeD 7 74 (.pointer (some ⟨g, 2, none⟩)) rfl rfl (by kernel_rfl) (by kernel_rfl) (by kernel_rfl) (fun _ _ _ h => h) (Or.inl ⟨by kernel_rfl, by intro w hSw; (try dsimp only at hSw); go_simp⟩) hHeld ?_
        simp only [List.set_cons_zero, List.set_cons_succ]
        refine takeD 8 75 (.int .i64 ki) rfl rfl (by kernel_rfl) (by kernel_rfl) (by kernel_rfl) (fun _ _ _ h => h) (Or.inl ⟨by kernel_rfl, by intro w hSw; (try dsimp only at hSw); go_simp⟩) hHeld ?_
        simp only [List.set_cons_zero, List.set_cons_succ]
        refine takeD 9 76 (.slice (some ⟨g, 0, none⟩) L.length lc) rfl rfl (by kernel_rfl) (by kernel_rfl) (by kernel_rfl) (fun _ _ _ h => h) (Or.inl ⟨by kernel_rfl, by intro w hSw; (try dsimp only at hSw); go_simp⟩) hHeld ?_
        simp only [List.set_cons_zero, List.set_cons_succ]
        refine takeD 10 77 (.pointer (some ⟨g, 3, none⟩)) rfl rfl (by kernel_rfl) (by kernel_rfl) (by kernel_rfl) (fun _ _ _ h => h) (Or.inl ⟨by kernel_rfl, by intro w hSw; (try dsimp only at hSw); go_simp⟩) hHeld ?_
        simp only [List.set_cons_zero, List.set_cons_succ]
        refine takeD 11 78 (.int .i64 tm) rfl rfl (by kernel_rfl) (by kernel_rfl) (by kernel_rfl) (fun _ _ _ h => h) (Or.inl ⟨by kernel_rfl, by intro w hSw; (try dsimp only at hSw); go_simp⟩) hHeld ?_
        simp only [List.set_cons_zero, List.set_cons_succ]
        refine takeD 12 79 (.slice (some ⟨g, 0, none⟩) L.length lc) rfl rfl (by kernel_rfl) (by kernel_rfl) (by kernel_rfl) (fun _ _ _ h => h) (Or.inl ⟨by kernel_rfl, by intro w hSw; (try dsimp only at hSw); go_simp⟩) hHeld ?_
        simp only [List.set_cons_zero, List.set_cons_succ]
        refine takeD 13 80 (.pointer (some ⟨g, 4, none⟩)) rfl rfl (by kernel_rfl) (by kernel_rfl) (by kernel_rfl) (fun _ _ _ h => h) (Or.inl ⟨by kernel_rfl, by intro w hSw; (try dsimp only at hSw); go_simp⟩) hHeld ?_
        simp only [List.set_cons_zero, List.set_cons_succ]
        refine takeD 14 81 (.int .i64 id) rfl rfl (by kernel_rfl) (by kernel_rfl) (by kernel_rfl) (fun _ _ _ h => h) (Or.inl ⟨by kernel_rfl, by intro w hSw; (try dsimp only at hSw); go_simp⟩) hHeld ?_
        simp only [List.set_cons_zero, List.set_cons_succ]
        refine takeD 15 82 (.slice (some ⟨g, 0, none⟩) L.length lc) rfl rfl (by kernel_rfl) (by kernel_rfl) (by kernel_rfl) (fun _ _ _ h => h) (Or.inl ⟨by kernel_rfl, by intro w hSw; (try dsimp only at hSw); go_simp⟩) hHeld ?_
        simp only [List.set_cons_zero, List.set_cons_succ]
        refine takeD 16 83 (.pointer (some ⟨g, 5, none⟩)) rfl rfl (by kernel_rfl) (by kernel_rfl) (by kernel_rfl) (fun _ _ _ h => h) (Or.inl ⟨by kernel_rfl, by intro w hSw; (try dsimp only at hSw); go_simp⟩) hHeld ?_
        simp only [List.set_cons_zero, List.set_cons_succ]
        refine takeD 17 84 (.int .i64 sk) rfl rfl (by kernel_rfl) (by kernel_rfl) (by kernel_rfl) (fun _ _ _ h => h) (Or.inl ⟨by kernel_rfl, by intro w hSw; (try dsimp only at hSw); go_simp⟩) hHeld ?_
        simp only [List.set_cons_zero, List.set_cons_succ]
        refine takeD 18 85 (.slice (some ⟨g, 0, none⟩) L.length lc) rfl rfl (by kernel_rfl) (by kernel_rfl) (by kernel_rfl) (fun _ _ _ h => h) (Or.inl ⟨by kernel_rfl, by intro w hSw; (try dsimp only at hSw); go_simp⟩) hHeld ?_
        simp only [List.set_cons_zero, List.set_cons_succ]
        refine takeD 19 86 (.pointer (some ⟨g, 6, none⟩)) rfl rfl (by kernel_rfl) (by kernel_rfl) (by kernel_rfl) (fun _ _ _ h => h) (Or.inl ⟨by kernel_rfl, by intro w hSw; (try dsimp only at hSw); go_simp⟩) hHeld ?_
        simp only [List.set_cons_zero, List.set_cons_succ]
        refine takeD 20 87 (.int .i64 sq) rfl rfl (by kernel_rfl) (by kernel_rfl) (by kernel_rfl) (fun _ _ _ h => h) (Or.inl ⟨by kernel_rfl, by intro w hSw; (try dsimp only at hSw); go_simp⟩) hHeld ?_
        simp only [List.set_cons_zero, List.set_cons_succ]
        refine takeD 21 88 (.slice (some ⟨g, 0, none⟩) L.length lc) rfl rfl (by kernel_rfl) (by kernel_rfl) (by kernel_rfl) (fun _ _ _ h => h) (Or.inl ⟨by kernel_rfl, by intro w hSw; (try dsimp only at hSw); go_simp⟩) hHeld ?_
        simp only [List.set_cons_zero, List.set_cons_succ]
        refine takeD 22 89 (.pointer (some ⟨g, 7, none⟩)) rfl rfl (by kernel_rfl) (by kernel_rfl) (by kernel_rfl) (fun _ _ _ h => h) (Or.inl ⟨by kernel_rfl, by intro w hSw; (try dsimp only at hSw); go_simp⟩) hHeld ?_
        simp only [List.set_cons_zero, List.set_cons_succ]
        refine takeD 23 90 (.int .i64 st) rfl rfl (by kernel_rfl) (by kernel_rfl) (by kernel_rfl) (fun _ _ _ h => h) (Or.inl ⟨by kernel_rfl, by intro w hSw; (try dsimp only at hSw); go_simp⟩) hHeld ?_
        simp only [List.set_cons_zero, List.set_cons_succ]
        refine takeD 24 91 (.agg #[.int .i64 sk, .int .i64 sq, .int .i64 st]) rfl rfl (by kernel_rfl) (by kernel_rfl) (by kernel_rfl) (fun _ _ _ h => h) (Or.inl ⟨by kernel_rfl, by intro w hSw; (try dsimp only at hSw); go_simp⟩) hHeld ?_
        simp only [List.set_cons_zero, List.set_cons_succ]
        refine takeD 25 92 (.slice (some ⟨g, 0, none⟩) L.length lc) rfl rfl (by kernel_rfl) (by kernel_rfl) (by kernel_rfl) (fun _ _ _ h => h) (Or.inl ⟨by kernel_rfl, by intro w hSw; (try dsimp only at hSw); go_simp⟩) hHeld ?_
        simp only [List.set_cons_zero, List.set_cons_succ]
        refine takeD 26 93 (.pointer (some ⟨g, 8, none⟩)) rfl rfl (by kernel_rfl) (by kernel_rfl) (by kernel_rfl) (fun _ _ _ h => h) (Or.inl ⟨by kernel_rfl, by intro w hSw; (try dsimp only at hSw); go_simp⟩) hHeld ?_
        simp only [List.set_cons_zero, List.set_cons_succ]
        refine takeD 27 94 (.int .i64 po) rfl rfl (by kernel_rfl) (by kernel_rfl) (by kernel_rfl) (fun _ _ _ h => h) (Or.inl ⟨by kernel_rfl, by intro w hSw; (try dsimp only at hSw); go_simp⟩) hHeld ?_
        simp only [List.set_cons_zero, List.set_cons_succ]
        refine takeD 28 95 (.agg #[.int .i64 ki, .int .i64 id, .int .i64 sk, .int .i64 sq, .int .i64 st, .int .i64 po, .slice none 0 0, .int .i64 tm]) rfl rfl (by kernel_rfl) (by kernel_rfl) (by kernel_rfl) (fun _ _ _ h => h) (Or.inl ⟨by kernel_rfl, by intro w hSw; (try dsimp only at hSw); go_simp⟩) hHeld ?_
        simp only [List.set_cons_zero, List.set_cons_succ]
        refine takeD 29 96 (.agg #[.int .i64 cl, .int .i64 nu, .int .i64 ki, .int .i64 id, .int .i64 sk, .int .i64 sq, .int .i64 st, .int .i64 po, .slice none 0 0, .int .i64 tm]) rfl rfl (by kernel_rfl) (by kernel_rfl) (by kernel_rfl) (fun _ _ _ h => h) (Or.inl ⟨by kernel_rfl, by intro w hSw; (try dsimp only at hSw); go_simp⟩) hHeld ?_
        simp only [List.set_cons_zero, List.set_cons_succ]
        refine wpAnyH_ready (rs := [30]) (by kernel_rfl) (by simp) (AllReadyH.cons rfl (fun K hK => ?_) AllReadyH.nil)
        have HQ1 : Hid ((wr.drew.alloc oZ).cell? ⟨g, 0, none⟩ = some (.int .i64 cl) ∧ (wr.drew.alloc oZ).cell? ⟨g, 1, none⟩ = some (.int .i64 nu) ∧ (wr.drew.alloc oZ).cell? ⟨g, 2, none⟩ = some (.int .i64 ki) ∧ (wr.drew.alloc oZ).cell? ⟨g, 3, none⟩ = some (.int .i64 tm) ∧ (wr.drew.alloc oZ).cell? ⟨g, 4, none⟩ = some (.int .i64 id) ∧ (wr.drew.alloc oZ).cell? ⟨g, 5, none⟩ = some (.int .i64 sk) ∧ (wr.drew.alloc oZ).cell? ⟨g, 6, none⟩ = some (.int .i64 sq) ∧ (wr.drew.alloc oZ).cell? ⟨g, 7, none⟩ = some (.int .i64 st) ∧ (wr.drew.alloc oZ).cell? ⟨g, 8, none⟩ = some (.int .i64 po)) := mkHid ⟨kl hHeld.1 _, kl hHeld.2.1 _, kl hHeld.2.2.1 _, kl hHeld.2.2.2.1 _, kl hHeld.2.2.2.2.1 _, kl hHeld.2.2.2.2.2.1 _, kl hHeld.2.2.2.2.2.2.1 _, kl hHeld.2.2.2.2.2.2.2.1 _, kl hHeld.2.2.2.2.2.2.2.2 _⟩
        have HRE : Hid (RE w ((wr.alloc (.cells #[.int .i64 cl, .int .i64 nu, .int .i64 ki, .int .i64 id, .int .i64 sk, .int .i64 sq, .int .i64 st, .int .i64 po, .slice none 0 0, .int .i64 tm] 96)).drew) wr.heap.size g L cl nu ki id sk sq st po tm ts 0 none 0) := mkHid (by
          have hb : Below wr.heap.size wr ((wr.alloc (.cells #[.int .i64 cl, .int .i64 nu, .int .i64 ki, .int .i64 id, .int .i64 sk, .int .i64 sq, .int .i64 st, .int .i64 po, .slice none 0 0, .int .i64 tm] 96)).drew) := (ba (Below.refl _ wr) _).drew
          have hgl := HGL.out
          have hsz := HG.out.sz
          refine ⟨heap_alloc_new wr _, ?_, World.ownsRow_nil _ _ _ _, fun k e => by simp [Value.ownBlock] at e, HRW.out.kept (kept_of_below hb) (by omega), by omega, by omega, by omega, ?_, bt HG.out.bel hb⟩
          · rw [hb.block _ (by omega)]
            exact HG.out.res
          · have := hb.size; omega)
        have hz : (wr.drew.alloc oZ).heap[wr.heap.size]? = some oZ := heap_alloc_new wr.drew oZ
        obtain ⟨r0, r1, r2, r3, r4, r5, r6, r7, r8, r9⟩ := ent_cells hz
        obtain ⟨f0, f1, f2, f3, f4, f5, f6, f7, f8, f9⟩ := ent_frozen hz
        clear hz
        go_simp
        refine hK.out _ _ HQ1.out (fun hHeld => ?_)
        clear hK K
        (try simp only [Act.put])
        refine wpAnyH_ready (rs := [31]) (by kernel_rfl) (by simp) (AllReadyH.cons rfl (fun K hK => ?_) AllReadyH.nil)
        go_simp
        refine hK.out _ _ (S9_of_row HRE.out.row HNM.out) (fun hHeld => ?_)
        clear hK K
        (try simp only [Act.put])
        refine wpAnyH_done (by kernel_rfl) ?_ _
        clear hHeld HQ1 r0 r1 r2 r3 r4 r5 r6 r7 r8 r9 f0 f1 f2 f3 f4 f5 f6 f7 f8 f9 q0 q1 q2 q3 q4 q5 q6 q7 q8 q9 b0 b1 b2 b3 b4 b5 b6 b7 b8
        obtain ⟨W2, hW2⟩ : ∃ W2, W2 = (wr.alloc (.cells #[.int .i64 cl, .int .i64 nu, .int .i64 ki, .int .i64 id, .int .i64 sk, .int .i64 sq, .int .i64 st, .int .i64 po, .slice none 0 0, .int .i64 tm] 96)).drew := ⟨_, rfl⟩
        obtain ⟨E, hE⟩ : ∃ E, E = wr.heap.size := ⟨_, rfl⟩
        rw [← hW2] at HRE ⊢
        rw [← hE] at HRE ⊢
        clear hW2 hE m1
        go_wp2
        go_loopw [9] (fun iv wq => ∃ (j : Nat) (ta : Option Addr) (tc : Nat), iv = .int .i64 ((10 + 4 * j : Nat) : Int) ∧ j ≤ ts.length ∧ Hid (RE w wq E g L cl nu ki id sk sq st po tm ts j ta tc)) (fun iv _ => 43 - (intOf iv).toNat)
        case atStart => exact ⟨0, none, 0, rfl, Nat.zero_le _, HRE⟩
        case round =>
          clear HRE
          obtain ⟨j, ta, tc, rfl, hj, HE⟩ := hrel
          by_cases hjl : j < ts.length
          case neg =>
            obtain rfl : j = ts.length := by omega
            have hge : ¬ ((10 + 4 * ts.length : Nat) : Int) < L.length := by have := HLl.out; omega
            have HTK : Hid (wr.ownsRow (w.heap.size + 1) 158 4 (.slice ta ts.length tc) ts.length (ts.flatMap c4)) := mkHid (by have := HE.out.own; rwa [List.take_of_length_le (Nat.le_refl _)] at this)
            have HEW : Hid (EnW wr (⟨cl, nu, ki, id, sk, sq, st, po, ts, tm⟩, ta, tc)) := mkHid (by
              obtain ⟨a', c', e', hq⟩ := tks_of_owns (by omega) HTK.out
              simp only [Value.slice.injEq] at e'
              obtain ⟨rfl, _, rfl⟩ := e'
              exact hq)
            obtain ⟨d0, d1, d2, d3, d4, d5, d6, d7, d8, d9⟩ := ent_cells HE.out.blk
            have HBS : Hid (bs = bytesE ⟨cl, nu, ki, id, sk, sq, st, po, ts, tm⟩) := mkHid (by unfold bytesE; rw [HNM.out]; exact HEQ.out)
            by_cases hf : inF ⟨cl, nu, ki, id, sk, sq, st, po, ts, tm⟩
            · have HF := mkHid hf
              clear hf
              go_wp2_with (go_at_call 78; refine (inForm_yes _ (⟨cl, nu, ki, id, sk, sq, st, po, ts, tm⟩, ta, tc) HEW.out HF.out).mono ?_; rintro r w4 ⟨rfl, hb4⟩; have HE4 := mkHid (HE.out.below hb4); have HT4 := mkHid (own4_below HTK.out hb4); obtain ⟨d0, d1, d2, d3, d4, d5, d6, d7, d8, d9⟩ := ent_cells HE4.out.blk; obtain ⟨r0, r1, r2, r3, r4, r5, r6, r7, r8, r9⟩ := ent_cells HE4.out.res; obtain ⟨f0, f1, f2, f3, f4, f5, f6, f7, f8, f9⟩ := ent_frozen HE4.out.res; have hne : ¬ E = w.heap.size := (by have := HE4.out.hE; omega); clear hb4)
              have k10 := set10_kept (F := fun k => k = w.heap.size) (Kept.refl _ w4) (b := w.heap.size) (.inl rfl) (.int .i64 cl) (.int .i64 nu) (.int .i64 ki) (.int .i64 id) (.int .i64 sk) (.int .i64 sq) (.int .i64 st) (.int .i64 po) (.slice ta ts.length tc) (.int .i64 tm)
              exact bodyPost_ret (ent_leaves rfl (set10_heap HE4.out.res _ _ _ _ _ _ _ _ _ _) _ rfl) rfl (.inl ⟨(⟨cl, nu, ki, id, sk, sq, st, po, ts, tm⟩, ta, tc), HF.out, HBS.out, rfl, own_up4 (own4_kept HT4.out k10 (fun k e e2 => by have := (HT4.out.lt k e).1; omega)) (by omega), set10_below HE4.out.bel (Nat.le_refl _) (.int .i64 cl) (.int .i64 nu) (.int .i64 ki) (.int .i64 id) (.int .i64 sk) (.int .i64 sq) (.int .i64 st) (.int .i64 po) (.slice ta ts.length tc) (.int .i64 tm)⟩)
            · have HF := mkHid hf
              clear hf
              go_wp2_with (go_at_call 78; refine (inForm_no _ (⟨cl, nu, ki, id, sk, sq, st, po, ts, tm⟩, ta, tc) HEW.out HF.out).mono ?_; rintro r w4 ⟨rfl, hb4⟩; have HE4 := mkHid (HE.out.below hb4); obtain ⟨r0, r1, r2, r3, r4, r5, r6, r7, r8, r9⟩ := ent_cells HE4.out.res; obtain ⟨f0, f1, f2, f3, f4, f5, f6, f7, f8, f9⟩ := ent_frozen HE4.out.res; clear hb4)
              exact bodyPost_ret (ent_leaves rfl (set10_heap HE4.out.res _ _ _ _ _ _ _ _ _ _) _ rfl) rfl (.inr ⟨fun e he hb => HF.out (by have := encL_inj _ _ (fun n hn => (HG.out.al n (by rw [← HNM.out]; exact hn)).1) he.pos (HBS.out.symm.trans hb); rw [nums_inj this]; exact he), rfl, set10_below HE4.out.bel (Nat.le_refl _) (.int .i64 0) (.int .i64 0) (.int .i64 0) (.int .i64 0) (.int .i64 0) (.int .i64 0) (.int .i64 0) (.int .i64 0) (.slice none 0 0) (.int .i64 0)⟩)
          obtain ⟨⟨x0, x1, x2, x3⟩, hx⟩ : ∃ x, ts[j]? = some x := ⟨_, List.getElem?_eq_getElem hjl⟩
          obtain ⟨o, ho⟩ : ∃ o, o = 10 + 4 * j := ⟨_, rfl⟩
          rw [← ho]
          have hT0 : wr.cell? ⟨E, 8, none⟩ = some (.slice ta j tc) ∧ wr.cell? ⟨g, o, none⟩ = some (.int .i64 x0) ∧ wr.cell? ⟨g, o + 1, none⟩ = some (.int .i64 x1) ∧ wr.cell? ⟨g, o + 2, none⟩ = some (.int .i64 x2) ∧ wr.cell? ⟨g, o + 3, none⟩ = some (.int .i64 x3) := by
            have hr := HE.out.row
            rw [← HNM.out] at hr
            have q : ∀ r, r < 4 → ∀ y, (tnum (x0, x1, x2, x3))[r]? = some y → wr.cell? ⟨g, o + r, none⟩ = some (.int .i64 y) := fun r h4 y hy => by
              have := hr (10 + 4 * j + r) y (by rw [tnum_at (e := ⟨cl, nu, ki, id, sk, sq, st, po, ts, tm⟩) hx r h4]; exact hy)
              rw [Nat.zero_add] at this
              rw [ho]; exact this
            exact ⟨cell_of_block HE.out.blk rfl, q 0 (by omega) _ rfl, q 1 (by omega) _ rfl, q 2 (by omega) _ rfl, q 3 (by omega) _ rfl⟩
          have HO := mkHid ho
          have HX := mkHid hx
          have o43 : (o : Int) + 3 < L.length := by have := HLl.out; omega
          have ol : ¬ (L.length : Int) ≤ o := by omega
          have ol1 : ¬ (L.length : Int) ≤ (o : Int) + 1 := by omega
          have ol2 : ¬ (L.length : Int) ≤ (o : Int) + 2 := by omega
          have ol3 : ¬ (L.length : Int) ≤ (o : Int) + 3 := by omega
          have ow : (o : Int) ≤ 43 := by omega
          have w1 : IntKind.i64.wrap ((o : Int) + 1) = (o : Int) + 1 := by rw [IntKind.wrap_i64]; omega
          have n1 : ¬ (o : Int) + 1 < 0 := by omega
          have w2 : IntKind.i64.wrap ((o : Int) + 2) = (o : Int) + 2 := by rw [IntKind.wrap_i64]; omega
          have n2 : ¬ (o : Int) + 2 < 0 := by omega
          have w3 : IntKind.i64.wrap ((o : Int) + 3) = (o : Int) + 3 := by rw [IntKind.wrap_i64]; omega
          have n3 : ¬ (o : Int) + 3 < 0 := by omega
          clear ho hx o43
          have hlo : (o : Int) < L.length := by omega
          go_wp2
          have hT : (fun w' : World => w'.cell? ⟨E, 8, none⟩ = some (.slice ta j tc) ∧ w'.cell? ⟨g, o, none⟩ = some (.int .i64 x0) ∧ w'.cell? ⟨g, o + 1, none⟩ = some (.int .i64 x1) ∧ w'.cell? ⟨g, o + 2, none⟩ = some (.int .i64 x2) ∧ w'.cell? ⟨g, o + 3, none⟩ = some (.int .i64 x3)) wr.drew := hT0
          refine wp_region_till (fun w' => w'.cell? ⟨E, 8, none⟩ = some (.slice ta j tc) ∧ w'.cell? ⟨g, o, none⟩ = some (.int .i64 x0) ∧ w'.cell? ⟨g, o + 1, none⟩ = some (.int .i64 x1) ∧ w'.cell? ⟨g, o + 2, none⟩ = some (.int .i64 x2) ∧ w'.cell? ⟨g, o + 3, none⟩ = some (.int .i64 x3)) 27 (by kernel_rfl) ?_
          refine freeD 0 103 (.pointer (some ⟨E, 2, none⟩)) rfl rfl (by kernel_rfl) (by kernel_rfl) (by kernel_rfl) (by decide) (fun _ _ _ h => h) (fun _ => hT) (Or.inl ⟨by kernel_rfl, by intro w _; go_simp⟩) ?_
          simp only [List.set_cons_zero, List.set_cons_succ]
          refine freeD 1 104 (.pointer (some ⟨E, 8, none⟩)) rfl rfl (by kernel_rfl) (by kernel_rfl) (by kernel_rfl) (by decide) (fun _ _ _ h => h) (fun _ => hT) (Or.inl ⟨by kernel_rfl, by intro w _; go_simp⟩) ?_
          simp only [List.set_cons_zero, List.set_cons_succ]
          refine firstD 2 105 (.slice ta j tc) rfl rfl (by kernel_rfl) (by kernel_rfl) (by kernel_rfl) (by kernel_rfl) (by decide) (by kernel_rfl) (fun _ _ _ h => h) (Or.inl ⟨by kernel_rfl, by intro w hSw; (try dsimp only at hSw); go_simp⟩) hT ?_
          simp only [List.set_cons_zero, List.set_cons_succ]
          refine freeD 3 106 (.slice (some ⟨g, 0, none⟩) L.length lc) rfl rfl (by kernel_rfl) (by kernel_rfl) (by kernel_rfl) (by decide) (fun _ _ _ h => h) (fun _ => hT) (Or.inl ⟨by kernel_rfl, by intro w _; go_simp⟩) ?_
          simp only [List.set_cons_zero, List.set_cons_succ]
          refine freeD 4 107 (.int .i64 (o : Int)) rfl rfl (by kernel_rfl) (by kernel_rfl) (by kernel_rfl) (by decide) (fun _ _ _ h => h) (fun _ => hT) (Or.inl ⟨by kernel_rfl, by intro w _; go_simp⟩) ?_
          simp only [List.set_cons_zero, List.set_cons_succ]
          refine freeD 5 108 (.pointer (some ⟨g, o, none⟩)) rfl rfl (by kernel_rfl) (by kernel_rfl) (by kernel_rfl) (by decide) (fun _ _ _ h => h) (fun _ => hT) (Or.inl ⟨by kernel_rfl, by intro w _; go_simp⟩) ?_
          simp only [List.set_cons_zero, List.set_cons_succ]
          refine firstD 6 109 (.int .i64 x0) rfl rfl (by kernel_rfl) (by kernel_rfl) (by kernel_rfl) (by kernel_rfl) (by decide) (by kernel_rfl) (fun _ _ _ h => h) (Or.inl ⟨by kernel_rfl, by intro w hSw; (try dsimp only at hSw); go_simp⟩) hT ?_
          simp only [List.set_cons_zero, List.set_cons_succ]
          refine freeD 7 110 (.slice (some ⟨g, 0, none⟩) L.length lc) rfl rfl (by kernel_rfl) (by kernel_rfl) (by kernel_rfl) (by decide) (fun _ _ _ h => h) (fun _ => hT) (Or.inl ⟨by kernel_rfl, by intro w _; go_simp⟩) ?_
          simp only [List.set_cons_zero, List.set_cons_succ]
          refine freeD 8 111 (.int .i64 (o : Int)) rfl rfl (by kernel_rfl) (by kernel_rfl) (by kernel_rfl) (by decide) (fun _ _ _ h => h) (fun _ => hT) (Or.inl ⟨by kernel_rfl, by intro w _; go_simp⟩) ?_
          simp only [List.set_cons_zero, List.set_cons_succ]
          refine freeD 9 112 (.int .i64 ((o : Int) + 1)) rfl rfl (by kernel_rfl) (by kernel_rfl) (by kernel_rfl) (by decide) (fun _ _ _ h => h) (fun _ => hT) (Or.inl ⟨by kernel_rfl, by intro w _; go_simp⟩) ?_
          simp only [List.set_cons_zero, List.set_cons_succ]
          refine freeD 10 113 (.pointer (some ⟨g, o + 1, none⟩)) rfl rfl (by kernel_rfl) (by kernel_rfl) (by kernel_rfl) (by decide) (fun _ _ _ h => h) (fun _ => hT) (Or.inl ⟨by kernel_rfl, by intro w _; go_simp⟩) ?_
          simp only [List.set_cons_zero, List.set_cons_succ]
          refine firstD 11 114 (.int .i64 x1) rfl rfl (by kernel_rfl) (by kernel_rfl) (by kernel_rfl) (by kernel_rfl) (by decide) (by kernel_rfl) (fun _ _ _ h => h) (Or.inl ⟨by kernel_rfl, by intro w hSw; (try dsimp only at hSw); go_simp⟩) hT ?_
          simp only [List.set_cons_zero, List.set_cons_succ]
          refine freeD 12 115 (.slice (some ⟨g, 0, none⟩) L.length lc) rfl rfl (by kernel_rfl) (by kernel_rfl) (by kernel_rfl) (by decide) (fun _ _ _ h => h) (fun _ => hT) (Or.inl ⟨by kernel_rfl, by intro w _; go_simp⟩) ?_
          simp only [List.set_cons_zero, List.set_cons_succ]
          refine freeD 13 116 (.int .i64 (o : Int)) rfl rfl (by kernel_rfl) (by kernel_rfl) (by kernel_rfl) (by decide) (fun _ _ _ h => h) (fun _ => hT) (Or.inl ⟨by kernel_rfl, by intro w _; go_simp⟩) ?_
          simp only [List.set_cons_zero, List.set_cons_succ]
          refine freeD 14 117 (.int .i64 ((o : Int) + 2)) rfl rfl (by kernel_rfl) (by kernel_rfl) (by kernel_rfl) (by decide) (fun _ _ _ h => h) (fun _ => hT) (Or.inl ⟨by kernel_rfl, by intro w _; go_simp⟩) ?_
          simp only [List.set_cons_zero, List.set_cons_succ]
          refine freeD 15 118 (.pointer (some ⟨g, o + 2, none⟩)) rfl rfl (by kernel_rfl) (by kernel_rfl) (by kernel_rfl) (by decide) (fun _ _ _ h => h) (fun _ => hT) (Or.inl ⟨by kernel_rfl, by intro w _; go_simp⟩) ?_
          simp only [List.set_cons_zero, List.set_cons_succ]
          refine firstD 16 119 (.int .i64 x2) rfl rfl (by kernel_rfl) (by kernel_rfl) (by kernel_rfl) (by kernel_rfl) (by decide) (by kernel_rfl) (fun _ _ _ h => h) (Or.inl ⟨by kernel_rfl, by intro w hSw; (try dsimp only at hSw); go_simp⟩) hT ?_
          simp only [List.set_cons_zero, List.set_cons_succ]
          refine freeD 17 120 (.slice (some ⟨g, 0, none⟩) L.length lc) rfl rfl (by kernel_rfl) (by kernel_rfl) (by kernel_rfl) (by decide) (fun _ _ _ h => h) (fun _ => hT) (Or.inl ⟨by kernel_rfl, by intro w _; go_simp⟩) ?_
          simp only [List.set_cons_zero, List.set_cons_succ]
          refine freeD 18 121 (.int .i64 (o : Int)) rfl rfl (by kernel_rfl) (by kernel_rfl) (by kernel_rfl) (by decide) (fun _ _ _ h => h) (fun _ => hT) (Or.inl ⟨by kernel_rfl, by intro w _; go_simp⟩) ?_
          simp only [List.set_cons_zero, List.set_cons_succ]
          refine freeD 19 122 (.int .i64 ((o : Int) + 3)) rfl rfl (by kernel_rfl) (by kernel_rfl) (by kernel_rfl) (by decide) (fun _ _ _ h => h) (fun _ => hT) (Or.inl ⟨by kernel_rfl, by intro w _; go_simp⟩) ?_
          simp only [List.set_cons_zero, List.set_cons_succ]
          refine freeD 20 123 (.pointer (some ⟨g, o + 3, none⟩)) rfl rfl (by kernel_rfl) (by kernel_rfl) (by kernel_rfl) (by decide) (fun _ _ _ h => h) (fun _ => hT) (Or.inl ⟨by kernel_rfl, by intro w _; go_simp⟩) ?_
          simp only [List.set_cons_zero, List.set_cons_succ]
          refine firstD 21 124 (.int .i64 x3) rfl rfl (by kernel_rfl) (by kernel_rfl) (by kernel_rfl) (by kernel_rfl) (by decide) (by kernel_rfl) (fun _ _ _ h => h) (Or.inl ⟨by kernel_rfl, by intro w hSw; (try dsimp only at hSw); go_simp⟩) hT ?_
          simp only [List.set_cons_zero, List.set_cons_succ]
          refine freeD 22 125 (.agg #[.int .i64 x0, .int .i64 x1, .int .i64 x2, .int .i64 x3]) rfl rfl (by kernel_rfl) (by kernel_rfl) (by kernel_rfl) (by decide) (fun _ _ _ h => h) (fun _ => hT) (Or.inl ⟨by kernel_rfl, by intro w _; go_simp⟩) ?_
          simp only [List.set_cons_zero, List.set_cons_succ]
          have HE9 := mkHid (HE.out.below (ba (Below.refl _ wr).drew (.cells #[.int .i64 x0, .int .i64 x1, .int .i64 x2, .int .i64 x3] 158)))
          have HS9 := mkHid (src_task wr.drew (x0, x1, x2, x3))
          have HT9 : Hid ((wr.drew.alloc (.cells #[.int .i64 x0, .int .i64 x1, .int .i64 x2, .int .i64 x3] 158)).cell? ⟨E, 8, none⟩ = some (.slice ta j tc) ∧ (wr.drew.alloc (.cells #[.int .i64 x0, .int .i64 x1, .int .i64 x2, .int .i64 x3] 158)).cell? ⟨g, o, none⟩ = some (.int .i64 x0) ∧ (wr.drew.alloc (.cells #[.int .i64 x0, .int .i64 x1, .int .i64 x2, .int .i64 x3] 158)).cell? ⟨g, o + 1, none⟩ = some (.int .i64 x1) ∧ (wr.drew.alloc (.cells #[.int .i64 x0, .int .i64 x1, .int .i64 x2, .int .i64 x3] 158)).cell? ⟨g, o + 2, none⟩ = some (.int .i64 x2) ∧ (wr.drew.alloc (.cells #[.int .i64 x0, .int .i64 x1, .int .i64 x2, .int .i64 x3] 158)).cell? ⟨g, o + 3, none⟩ = some (.int .i64 x3)) := mkHid ⟨kl hT.1 _, kl hT.2.1 _, kl hT.2.2.1 _, kl hT.2.2.2.1 _, kl hT.2.2.2.2 _⟩
          refine wpT_ready (rs := [23]) (by kernel_rfl) (by simp) (AllT.cons rfl (fun K hK => ?_) AllT.nil)
          go_simp
          refine hK.out _ _ (fun _ => HT9.out) ?_
          clear hK K
          (try simp only [Act.put])
          refine wpT_ready (rs := [24]) (by kernel_rfl) (by simp) (AllT.cons rfl (fun K hK => ?_) AllT.nil)
          refine step_append_src4 (w := (wr.drew.alloc (.cells #[.int .i64 x0, .int .i64 x1, .int .i64 x2, .int .i64 x3] 158))) rfl (.tmp 105) (.tmp 126) 92 92 rfl (w.heap.size + 1) 158 ie Tryd.underlying92 hie.out.1 zth 32 hie.out.2.1 HZ.out hie.out.2.2.1 hie.out.2.2.2 (.slice ta j tc) j ((ts.take j).flatMap c4) (by simp [Act.eval]) HE9.out.own (.slice (some ⟨wr.heap.size, 0, none⟩) 1 1) 1 (c4 (x0, x1, x2, x3)) (by simp [Act.eval]) HS9.out (by unfold maxLen; omega) (by omega) (by have := HE9.out.hg; have := HE9.out.gl; omega) ?_
          intro v10 w10 ho10 hg10 hv10
          obtain ⟨ta2, tc2, rfl⟩ := own_shape ho10
          have HE10 := mkHid (HE9.out.grown HX.out ho10 hg10 hv10)
          have HT10 : Hid (w10.cell? ⟨E, 8, none⟩ = some (.slice ta j tc) ∧ w10.cell? ⟨g, o, none⟩ = some (.int .i64 x0) ∧ w10.cell? ⟨g, o + 1, none⟩ = some (.int .i64 x1) ∧ w10.cell? ⟨g, o + 2, none⟩ = some (.int .i64 x2) ∧ w10.cell? ⟨g, o + 3, none⟩ = some (.int .i64 x3)) := mkHid (by
            have hk := Kept.grown hg10 (F := fun k => (Value.slice ta j tc).ownBlock = some k) (fun k hk => hk)
            have hn : ¬ (Value.slice ta j tc).ownBlock = some g := fun e => (HE9.out.ne g e).2 rfl
            exact ⟨cell_of_block HE10.out.1 rfl, hk.cell HT9.out.2.1 hn, hk.cell HT9.out.2.2.1 hn, hk.cell HT9.out.2.2.2.1 hn, hk.cell HT9.out.2.2.2.2 hn⟩)
          clear ho10 hg10 hv10
          refine hK.out _ _ (fun _ => HT10.out) ?_
          clear hK K
          (try simp only [Act.put])
          have e8 : w10.cell? ⟨E, 8, none⟩ = some (.slice ta j tc) := cell_of_block HE10.out.1 rfl
          have g8 : w10.frozen? ⟨E, 8, none⟩ = false := frozen_of_block HE10.out.1
          have hT := HT10.out
          refine freeD 25 128 (.pointer (some ⟨E, 2, none⟩)) rfl rfl (by kernel_rfl) (by kernel_rfl) (by kernel_rfl) (by decide) (fun _ _ _ h => h) (fun _ => hT) (Or.inl ⟨by kernel_rfl, by intro w _; go_simp⟩) ?_
          simp only [List.set_cons_zero, List.set_cons_succ]
          refine freeD 26 129 (.pointer (some ⟨E, 8, none⟩)) rfl rfl (by kernel_rfl) (by kernel_rfl) (by kernel_rfl) (by decide) (fun _ _ _ h => h) (fun _ => hT) (Or.inl ⟨by kernel_rfl, by intro w _; go_simp⟩) ?_
          simp only [List.set_cons_zero, List.set_cons_succ]
          refine wpT_ready (rs := [27]) (by kernel_rfl) (by simp) (AllT.cons rfl (fun K hK => ?_) AllT.nil)
          go_simp
          refine hK.out _ _ (bool_no (by kernel_rfl)) ?_
          clear hK K e8 g8 hT
          refine wpT_done (by kernel_rfl) ?_ _
          have hw4 : IntKind.i64.wrap ((o : Int) + 4) = (o : Int) + 4 := by rw [IntKind.wrap_i64]; omega
          go_wp2
          go_roundw
          case rel => exact ⟨j + 1, ta2, tc2, by have := HO.out; rw [this]; congr 1 <;> (try push_cast) <;> (try omega), by omega, mkHid HE10.out.2⟩
          case measure => simp [intOf]; omega
end Go.Proofs.YtaiklaipdocdmaaDoor

