/- QueueSorts. -/
import Derived.Test.YtjlmkmhggkcbhaaDoorQst
import Derived.OwnWalk
import Derived.Deep.QuietTactic
import Derived.BigQuiet
namespace Go.Proofs.YtjlmkmhggkcbhaaDoor
open Go.ChangeShapes Go.WideShapes Go.ChangeAt Go.RowKit
set_option maxRecDepth 100000

theorem infoInt : (Tryd.prog.info? 3).map (fun i => (i.zero, i.size, i.bytes)) = some (some (.int .i64 0), 1, 8) := by kernel_rfl
theorem infoBool : (Tryd.prog.info? 4).map (fun i => (i.zero, i.size, i.bytes)) = some (some (.bool false), 1, 1) := by kernel_rfl
theorem falses_made (n : Nat) : (madeCells (Value.bool false).cells (n * 1)).toList = (List.replicate n false).map Value.bool := by
  rw [Nat.mul_one]
  refine List.ext_getElem (by simp [madeCells]) (fun i h1 h2 => ?_)
  simp [madeCells, Value.cells, Nat.mod_one]
/-- What the queue of a law holds: the numbers that are not gone, with their last ranks. -/
def Mem7 (la : List Int) (go : List Bool) (V : List Th) : Prop := ∀ x : Th, x ∈ V ↔ ∃ j : Nat, j < la.length ∧ x.1 = (j : Int) ∧ go.getD j false = false ∧ x.2 = la.getD j 0
def MemTo (rs : List Int) (j : Nat) (V : List Th) : Prop := ∀ x : Th, x ∈ V ↔ ∃ k : Nat, k < j ∧ x.1 = (k : Int) ∧ x.2 = rs.getD k 0
theorem MemTo.push {rs : List Int} {j : Nat} {V V' : List Th} (h : MemTo rs j V) (h' : ∀ y, y ∈ V' ↔ y ∈ V ∨ y = ((j : Int), rs.getD j 0)) : MemTo rs (j + 1) V' := by
  intro x
  rw [h' x, h x]
  constructor
  · rintro (⟨k, hk, a, b⟩ | rfl)
    · exact ⟨k, by omega, a, b⟩
    · exact ⟨j, by omega, rfl, rfl⟩
  · rintro ⟨k, hk, a, b⟩
    by_cases e : k = j
    · subst e; exact .inr (Prod.ext a b)
    · exact .inl ⟨k, by omega, a, b⟩
theorem MemTo.all {rs : List Int} {V : List Th} (h : MemTo rs rs.length V) : Mem7 rs (List.replicate rs.length false) V := by
  intro x
  rw [h x]
  constructor
  · rintro ⟨k, hk, a, b⟩
    exact ⟨k, hk, a, by simp [List.getD, hk], b⟩
  · rintro ⟨k, hk, a, _, b⟩
    exact ⟨k, hk, a, b⟩
theorem Mem7.drop {la : List Int} {go : List Bool} {V V' : List Th} {k : Nat} (h : Mem7 la go V) (hl : go.length = la.length) (hk : k < la.length) (h' : ∀ y, y ∈ V' ↔ y ∈ V ∧ y.1 ≠ (k : Int)) : Mem7 la (go.set k true) V' := by
  intro x
  rw [h' x, h x]
  constructor
  · rintro ⟨⟨j, hj, a, b, c⟩, d⟩
    refine ⟨j, hj, a, ?_, c⟩
    have : ¬ k = j := fun e => d (by rw [a, e])
    simpa [List.getD, List.getElem?_set, this] using b
  · rintro ⟨j, hj, a, b, c⟩
    by_cases e : k = j
    · subst e
      simp [List.getD, hl, hk] at b
    · refine ⟨⟨j, hj, a, by simpa [List.getD, List.getElem?_set, e] using b, c⟩, fun d => e ?_⟩
      have := a.symm.trans d
      omega
theorem Mem7.turn {la : List Int} {go : List Bool} {V V' : List Th} {k : Nat} {r : Int} (h : Mem7 la go V) (hk : k < la.length) (hg : go.getD k false = false) (h' : ∀ y, y ∈ V' ↔ (y.1 ≠ (k : Int) ∧ y ∈ V) ∨ y = ((k : Int), r)) : Mem7 (la.set k r) go V' := by
  intro x
  rw [h' x, h x, List.length_set]
  constructor
  · rintro (⟨d, j, hj, a, b, c⟩ | rfl)
    · have : ¬ k = j := fun e => d (by rw [a, e])
      exact ⟨j, hj, a, b, by simpa [List.getD, List.getElem?_set, this] using c⟩
    · exact ⟨k, hk, rfl, hg, by simp [List.getD, hk]⟩
  · rintro ⟨j, hj, a, b, c⟩
    by_cases e : k = j
    · subst e
      refine .inr (Prod.ext a ?_)
      simpa [List.getD, hk] using c
    · refine .inl ⟨fun d => e ?_, j, hj, a, b, by simpa [List.getD, List.getElem?_set, e] using c⟩
      have := a.symm.trans d
      omega
theorem Mem7.none {la : List Int} {go : List Bool} {V : List Th} {i : Int} (h : Mem7 la go V) (hn : i < 0 ∨ (la.length : Int) ≤ i ∨ ∃ k : Nat, i = k ∧ go.getD k false = true) : ∀ y ∈ V, y.1 ≠ i := by
  intro y hy e
  obtain ⟨j, hj, a, b, c⟩ := (h y).mp hy
  rcases hn with hn | hn | ⟨k, rfl, hn⟩
  · omega
  · omega
  · have : j = k := by omega
    subst this
    rw [hn] at b
    cases b
theorem Mem7.some {la : List Int} {go : List Bool} {V : List Th} {k : Nat} (h : Mem7 la go V) (hk : k < la.length) (hg : go.getD k false = false) : ∃ y ∈ V, y.1 = (k : Int) :=
  ⟨((k : Int), la.getD k 0), (h _).mpr ⟨k, hk, rfl, hg, rfl⟩, rfl⟩
/-- The lists of the law: the last ranks, and what is gone. -/
structure Ls (w wr : World) (lv gv : Value) (la : List Int) (go : List Bool) (Pr : Nat → Prop) : Prop where
  l : wr.ownsRow w.heap.size 3 1 lv la.length (la.map (Value.int .i64))
  g : wr.ownsRow w.heap.size 4 1 gv la.length (go.map Value.bool)
  lp : ∀ k, lv.ownBlock = some k → Pr k
  gp : ∀ k, gv.ownBlock = some k → Pr k
  ne : ∀ k, lv.ownBlock = some k → gv.ownBlock ≠ some k
  gl : go.length = la.length
theorem Ls.pk {w wr w' : World} {lv gv : Value} {la : List Int} {go : List Bool} {Pr : Nat → Prop} (h : Ls w wr lv gv la go Pr) (hk : Pk Pr wr w') : Ls w w' lv gv la go Pr :=
  ⟨hk.own h.l h.lp, hk.own h.g h.gp, h.lp, h.gp, h.ne, h.gl⟩
theorem Ls.gone {w wr : World} {lv : Value} {la : List Int} {go : List Bool} {Pr : Nat → Prop} {n g cap : Nat} (hn : la.length = n) (h : Ls w wr lv (.slice (some ⟨g, 0, none⟩) n cap) la go Pr) (k : Nat) :
    Ls w (wr.setCell ⟨g, k, none⟩ (.bool true)) lv (.slice (some ⟨g, 0, none⟩) n cap) la (go.set k true) Pr := by
  subst hn
  have hk : Kept (fun j => j = g) wr (wr.setCell ⟨g, k, none⟩ (.bool true)) := Kept.setCell (F := fun j => j = g) wr (p := ⟨g, k, none⟩) rfl _
  refine ⟨own_keep h.l hk (fun j hj e => h.ne j hj (by rw [e]; rfl)), ?_, h.lp, h.gp, h.ne, by rw [List.length_set]; exact h.gl⟩
  rw [List.map_set]
  exact own_set h.g k _
theorem Ls.turned {w wr : World} {gv : Value} {la : List Int} {go : List Bool} {Pr : Nat → Prop} {n g cap : Nat} (hn : la.length = n) (h : Ls w wr (.slice (some ⟨g, 0, none⟩) n cap) gv la go Pr) (k : Nat) (r : Int) :
    Ls w (wr.setCell ⟨g, k, none⟩ (.int .i64 r)) (.slice (some ⟨g, 0, none⟩) n cap) gv (la.set k r) go Pr := by
  subst hn
  have hk : Kept (fun j => j = g) wr (wr.setCell ⟨g, k, none⟩ (.int .i64 r)) := Kept.setCell (F := fun j => j = g) wr (p := ⟨g, k, none⟩) rfl _
  refine ⟨?_, by rw [List.length_set]; exact own_keep h.g hk (fun j hj e => h.ne g rfl (by rw [hj, e])), h.lp, h.gp, h.ne, by rw [List.length_set]; exact h.gl⟩
  rw [List.map_set, List.length_set]
  exact own_set h.l k _
theorem Qp.less {w wr : World} {p : Nat} {V : List Th} {Pr Ps : Nat → Prop} (h : Qp w wr p V Pr) (hs : ∀ k, Ps k → Pr k) : Qp w wr p V Ps := by
  obtain ⟨⟨F, h1, h2, h3⟩, h4⟩ := h
  exact ⟨⟨F, h1, h2, fun k hk => h3 k (hs k hk)⟩, h4⟩
theorem Pk.less {Pr Ps : Nat → Prop} {w w' : World} (h : Pk Pr w w') (hs : ∀ k, Ps k → Pr k) : Pk Ps w w' := ⟨h.1, fun k hk hp => h.2 k hk (hs k hp)⟩
theorem Ls.lat {w wr : World} {gv : Value} {la : List Int} {go : List Bool} {Pr : Nat → Prop} {a : Option Addr} {n cap : Nat} (hn : la.length = n) (h : Ls w wr (.slice a n cap) gv la go Pr) (k : Nat) (hk : k < n) :
    ∃ g, a = some ⟨g, 0, none⟩ ∧ wr.cell? ⟨g, k, none⟩ = some (.int .i64 (la.getD k 0)) ∧ wr.frozen? ⟨g, k, none⟩ = false ∧ Pr g ∧ w.heap.size ≤ g ∧ g < wr.heap.size := by
  subst hn
  have hl := h.l
  rcases h.l.2 with ⟨h0, _⟩ | ⟨g, cap', cur, h0, hb, hg, _⟩
  · simp at h0; omega
  · simp at h0
    obtain ⟨rfl, rfl⟩ := h0
    exact ⟨g, rfl, own_at hl k _ (by simp [List.getD, hk]), own_frozen hl k, h.lp g rfl, hb, (Array.getElem?_eq_some_iff.1 hg).1⟩
theorem Ls.gat {w wr : World} {lv : Value} {la : List Int} {go : List Bool} {Pr : Nat → Prop} {n g cap : Nat} (hn : la.length = n) (h : Ls w wr lv (.slice (some ⟨g, 0, none⟩) n cap) la go Pr) (k : Nat) (hk : k < n) :
    wr.cell? ⟨g, k, none⟩ = some (.bool (go.getD k false)) ∧ wr.frozen? ⟨g, k, none⟩ = false ∧ Pr g ∧ w.heap.size ≤ g ∧ g < wr.heap.size := by
  subst hn
  refine ⟨own_at h.g k _ (by rw [← h.gl] at hk; simp [List.getD, hk]), own_frozen h.g k, h.gp g rfl, (h.g.lt g rfl).1, (h.g.lt g rfl).2⟩
/-- The law's own two lists and its queue, as they begin. -/
theorem ls_start {w w1 w2 w4 w5 : World} {p : Nat} {F : Nat → Prop} {lv : Value} {rs : List Int} (q : Qu F w2 p []) (hF : ∀ k, F k → w1.heap.size ≤ k) (b1 : Below w.heap.size w w1) (b2 : Below w.heap.size w w2) (o4 : w4.ownsRow w.heap.size 3 1 lv (0 + rs.length) ([] ++ rs.map (Value.int .i64)))
    (g4 : (w2.alloc (.cells #[] 3)).grownBy w4 (some w2.heap.size)) (a4 : lv.ownBlock = some w2.heap.size ∨ lv.ownBlock = some (w2.alloc (.cells #[] 3)).heap.size)
    (o5 : w5.ownsRow w.heap.size 4 1 (.slice (some ⟨w4.heap.size, 0, none⟩) rs.length rs.length) rs.length (madeCells (Value.bool false).cells (rs.length * 1)).toList) (g5 : w4.grownBy w5 none) :
    Qp w w5 p [] (fun k => lv.ownBlock = some k ∨ k = w4.heap.size) ∧ Ls w w5 lv (.slice (some ⟨w4.heap.size, 0, none⟩) rs.length rs.length) rs (List.replicate rs.length false) (fun k => lv.ownBlock = some k ∨ k = w4.heap.size) := by
  have hs3 : (w2.alloc (.cells #[] 3)).heap.size = w2.heap.size + 1 := by simp
  have hs4 := g4.size
  have hs5 := g5.size
  rw [hs3] at hs4 a4
  have b4 : Below w2.heap.size w2 w4 := ((Below.refl _ w2).alloc (Nat.le_refl _) _).grown g4 (by simp) (fun k hk => by simp at hk; omega)
  have b5 : Below w4.heap.size w4 w5 := (Below.refl _ w4).grown g5 (Nat.le_refl _) (fun k hk => by simp at hk)
  have b25 : Below w2.heap.size w2 w5 := b4.trans (b5.mono (by omega))
  have hlv : ∀ k, lv.ownBlock = some k → w2.heap.size ≤ k ∧ k < w4.heap.size := by
    intro k hk
    have := (o4.lt k hk).2
    rcases a4 with e | e
    · rw [e] at hk; simp at hk; omega
    · rw [e] at hk; simp at hk; omega
  rw [Nat.zero_add, List.nil_append] at o4
  have o5' : w5.ownsRow w.heap.size 4 1 (.slice (some ⟨w4.heap.size, 0, none⟩) rs.length rs.length) rs.length ((List.replicate rs.length false).map Value.bool) := by rw [← falses_made]; exact o5
  have h4 := (o5.lt w4.heap.size rfl).2
  refine ⟨⟨⟨F, q.below b25, fun k hk => ?_, fun k hk => ?_⟩, b2.trans (b25.mono b2.size)⟩, ⟨own_keep o4 (kept_of_below b5) (fun k hk h => by have := (hlv k hk).2; omega), o5', fun k hk => .inl hk, fun k hk => .inr (by simpa [Value.ownBlock] using hk.symm), fun k hk e => ?_, by simp⟩⟩
  · have := hF k hk
    have := b1.size
    omega
  · rcases hk with hk | hk
    · have := hlv k hk
      exact ⟨fun f => by have := q.lt k f; omega, by omega⟩
    · subst hk
      exact ⟨fun f => by have := q.lt _ f; omega, h4⟩
  · simp [Value.ownBlock] at e
    have := (hlv k hk).2
    omega
theorem Ls.more {w wr : World} {lv gv : Value} {la : List Int} {go : List Bool} {Pr Ps : Nat → Prop} (h : Ls w wr lv gv la go Pr) (hs : ∀ k, Pr k → Ps k) : Ls w wr lv gv la go Ps :=
  ⟨h.l, h.g, fun k hk => hs k (h.lp k hk), fun k hk => hs k (h.gp k hk), h.ne, h.gl⟩
theorem Ls.keep {w wr w' : World} {lv gv : Value} {la : List Int} {go : List Bool} {Ps : Nat → Prop} {b : Nat} (h : Ls w wr lv gv la go Ps) (hk : Kept (fun k => k = b) wr w') (hl : lv.ownBlock ≠ some b) (hg : gv.ownBlock ≠ some b) : Ls w w' lv gv la go Ps :=
  ⟨own_keep h.l hk (fun k e f => hl (by rw [← f]; exact e)), own_keep h.g hk (fun k e f => hg (by rw [← f]; exact e)), h.lp, h.gp, h.ne, h.gl⟩
theorem set_cell2 (w : World) (b : Nat) (u v : Value) : Kept (fun k => k = b) w ((w.setCell ⟨b, 0, none⟩ u).setCell ⟨b, 1, none⟩ v) :=
  (Kept.setCell (F := fun k => k = b) w (p := ⟨b, 0, none⟩) rfl _).trans (Kept.setCell (F := fun k => k = b) _ (p := ⟨b, 1, none⟩) rfl _) (fun _ h => .inl h)
/-- A thing of two cells in a block of its own. -/
def Box (w : World) (b : Nat) (x : Th) : Prop := w.heap[b]? = some (.cells #[.int .i64 x.1, .int .i64 x.2] 52 (0, 0))
theorem Box.set {w : World} {b : Nat} {x : Th} (h : Box w b x) (y : Th) : Box ((w.setCell ⟨b, 0, none⟩ (.int .i64 y.1)).setCell ⟨b, 1, none⟩ (.int .i64 y.2)) b y := by
  unfold Box at *
  rw [heap_set (heap_set h)]
  rfl
theorem Box.cells {w : World} {b : Nat} {x : Th} (h : Box w b x) : w.cell? ⟨b, 0, none⟩ = some (.int .i64 x.1) ∧ w.cell? ⟨b, 1, none⟩ = some (.int .i64 x.2) ∧ w.frozen? ⟨b, 0, none⟩ = false ∧ w.frozen? ⟨b, 1, none⟩ = false :=
  ⟨cell_of_block h rfl, cell_of_block h rfl, frozen_of_block h, frozen_of_block h⟩
theorem Box.pk {Pr : Nat → Prop} {w w' : World} {b : Nat} {x : Th} (h : Box w b x) (hk : Pk Pr w w') (hp : Pr b) : Box w' b x := by
  unfold Box at *
  rw [hk.2 b (Array.getElem?_eq_some_iff.1 h).1 hp]
  exact h
theorem Box.keep {G : Nat → Prop} {w w' : World} {b : Nat} {x : Th} (h : Box w b x) (hk : Kept G w w') (hp : ¬ G b) : Box w' b x := by
  unfold Box at *
  rw [hk.block b (Array.getElem?_eq_some_iff.1 h).1 hp]
  exact h
set_option maxHeartbeats 6400000 in
theorem sorts_walk (w : World) (v0 v1 : Value) (rs : List Int) (ts : List (Int × Int)) (ea : Addr) (text : List UInt8) (h0 : IRd w v0 rs) (h1 : PRd w v1 ts) (E0 : Err w 0 text ea) :
    Calls Tryd.prog 5 #[v0, v1] w fun e w' => e = .returned (.bool true) ∧ Below w.heap.size w w' := by
  obtain ⟨a0, c0, rfl, hb0, hx0⟩ := id h0
  obtain ⟨a1, c1, rfl, hb1, hx1⟩ := id h1
  have H0 := mkHid h0
  have H1 := mkHid h1
  have HE := mkHid E0.1
  have heq := fun W' => E0.eq W'
  have HEQ := mkHid heq
  clear h0 h1 E0 heq hx0 hx1
  by_cases hbig : (4096 : Int) < rs.length
  · go_enter Tryd.func5, Tryd.ntmps5
    go_wp2_with (first | (go_at_call 8; refine (alive_q _).mono ?_; rintro e w1 ⟨rfl, hb1'⟩; have HB1 := mkHid hb1'; clear hb1'))
    go_ret
    exact ⟨rfl, HB1.out⟩
  · have HS : Hid (rs.length ≤ 4096) := mkHid (by omega)
    obtain ⟨ii, hii⟩ : ∃ ii, Hid (Tryd.prog.info? 3 = some ii ∧ ii.zero = some (.int .i64 0) ∧ ii.size = 1 ∧ ii.bytes = 8) := by
      obtain ⟨ie, h1, h2, h3, h4⟩ := info_parts infoInt
      exact ⟨ie, mkHid ⟨h1, h2, h3, h4⟩⟩
    obtain ⟨ib, hib⟩ : ∃ ib, Hid (Tryd.prog.info? 4 = some ib ∧ ib.zero = some (.bool false) ∧ ib.size = 1 ∧ ib.bytes = 1) := by
      obtain ⟨ie, h1, h2, h3, h4⟩ := info_parts infoBool
      exact ⟨ie, mkHid ⟨h1, h2, h3, h4⟩⟩
    go_enter Tryd.func5, Tryd.ntmps5
    go_wp2_with (first
      | (go_at_call 8; refine (alive_q _).mono ?_; rintro e w1 ⟨rfl, hb1'⟩; have HB1 := mkHid hb1'; clear hb1')
      | (go_at_call 9; refine (new_is w1).mono ?_; rintro e w2 ⟨p, rfl, hq⟩; obtain ⟨F, q1, q2, q3⟩ := hq.out; have HQ2 := mkHid q1; have HF2 := mkHid q2; have HB2 := mkHid (HB1.out.trans (q3.mono HB1.out.size)); have HS2 := mkHid q3.size; clear hq q1 q2 q3)
      | (at_builtin; have hm := World.ownsRow_made (base := w.heap.size) (e := 3) (size := 1) w2 #[] 0 HB2.out.size (by unfold maxLen; omega) rfl; refine wpList_append_srcV _ rfl (.tmp 29) (.tmp 30) 36 36 rfl w.heap.size 3 ii Tryd.underlying36 hii.out.1 (.int .i64 0) 8 hii.out.2.1 rfl hii.out.2.2.1 hii.out.2.2.2 (.slice (some ⟨w2.heap.size, 0, none⟩) 0 0) 0 [] rfl hm _ rs.length (rs.map (Value.int .i64)) rfl (((H0.out.later HB2.out).later ((Below.refl _ w2).alloc (Nat.le_refl _) _)).src) (by have := HS.out; unfold maxLen; omega) (by have := HS.out; omega) (by have := HB2.out.size; simp; omega) ?_; intro lv w4 ho4 hg4 hat4; have HO4 := mkHid ho4; have HG4 := mkHid hg4; have HA4 := mkHid hat4; have HS4 := mkHid (Nat.le_trans HB2.out.size (Nat.le_trans (Nat.le_trans (Nat.le_succ _) (Nat.le_of_eq (by simp))) hg4.size)); obtain ⟨la, lc, rfl⟩ := own_shape ho4; clear hm ho4 hg4 hat4)
      | (refine wpList_make_full _ rfl (.tmp 33) (.tmp 33) 45 rfl w.heap.size 4 ib (.bool false) 1 Tryd.underlying45 hib.out.1 hib.out.2.1 hib.out.2.2.1 .i64 .i64 (rs.length : Int) (rs.length : Int) rs.length rfl rfl rfl rfl (by rw [hib.out.2.2.2]; have := HS.out; omega) (by have := HS.out; unfold maxLen; omega) HS4.out ?_; intro w5 ho5 hg5; have HST := mkHid (ls_start HQ2.out HF2.out HB1.out HB2.out HO4.out HG4.out HA4.out ho5 hg5); clear ho5 hg5))
    obtain ⟨gb, hgb⟩ : ∃ gb, gb = w4.heap.size := ⟨_, rfl⟩
    rw [← hgb] at HST ⊢
    simp only [Nat.zero_add] at HST ⊢
    obtain ⟨Pr, hPr⟩ : ∃ Pr : Nat → Prop, Pr = (fun k => (Value.slice la rs.length lc).ownBlock = some k ∨ k = gb) := ⟨_, rfl⟩
    rw [← hPr] at HST
    have HPR := mkHid hPr
    clear hPr hgb HO4 HG4 HA4 HS4 HQ2 HF2 HS2 hii hib
    go_loopw [37] (fun iv wr => ∃ (j : Nat) (V : List Th), iv = .int .i64 (j : Int) ∧ j ≤ rs.length ∧ Qp w wr p V Pr ∧ Ls w wr (.slice la rs.length lc) (.slice (some ⟨gb, 0, none⟩) rs.length rs.length) rs (List.replicate rs.length false) Pr ∧ MemTo rs j V ∧ V.length = j) (fun iv _ => rs.length - (intOf iv).toNat)
    case atStart => exact ⟨0, [], rfl, Nat.zero_le _, HST.out.1, HST.out.2, fun x => by simp, rfl⟩
    case round =>
      clear HST
      obtain ⟨j, V, rfl, hj, hQ, hL, hM, hV⟩ := hrel
      have HQ := mkHid hQ
      have HL := mkHid hL
      have HM := mkHid hM
      have HV := mkHid hV
      clear hQ hL hM hV
      by_cases hlt : j < rs.length
      · obtain ⟨b, off, rfl, x0⟩ := H0.out.at HQ.out.2 j hlt
        have hji : (j : Int) < rs.length := by omega
        obtain ⟨x, hx⟩ : ∃ x, x = rs.getD j 0 := ⟨_, rfl⟩
        rw [← hx] at x0
        have HX := mkHid hx
        clear hx hb1 hbig
        go_wp2_with (first | (go_at_call 18; refine (qp_push HQ.out (j : Int) x (fun y hy e => by obtain ⟨k, hk, a, _⟩ := (HM.out y).mp hy; omega) (by have := HV.out; have := HS.out; omega)).mono ?_; rintro e w3 ⟨rfl, hq⟩; have HQ3 := mkHid hq.out; clear hq))
        go_roundw
        case rel =>
          obtain ⟨V', q1, q2, q3, q4⟩ := HQ3.out
          exact ⟨j + 1, V', by go_num, by omega, q1, HL.out.pk q4, HM.out.push (by rw [← HX.out]; exact q2), by rw [q3, HV.out]⟩
        case measure => simp [intOf]; omega
      · obtain rfl : j = rs.length := by omega
        have HMM := mkHid HM.out.all
        go_wp2
        clear HM
        obtain ⟨n, hn⟩ : ∃ n, n = rs.length := ⟨_, rfl⟩
        have HN := mkHid hn.symm
        rw [← hn] at HL hb0 HPR HS HMM
        rw [← hn]
        clear hn hbig
        go_loopw [52, 10] (fun iv lf wr => ∃ (j : Nat) (ls : List Int) (go : List Bool) (V : List Th), iv = .int .i64 (j : Int) ∧ lf = .int .i64 (V.length : Int) ∧ j ≤ ts.length ∧ ls.length = n ∧ V.length ≤ n ∧ Qp w wr p V Pr ∧ Ls w wr (.slice la n lc) (.slice (some ⟨gb, 0, none⟩) n n) ls go Pr ∧ Mem7 ls go V) (fun iv _ _ => ts.length - (intOf iv).toNat)
        case atStart => exact ⟨0, rs, _, V, rfl, by rw [HV.out, HN.out], Nat.zero_le _, HN.out, by rw [HV.out, HN.out]; exact Nat.le_refl _, HQ.out, HL.out, HMM.out⟩
        case round =>
          clear HMM HL HQ HV HN hj
          obtain ⟨j, ls, go, V, rfl, rfl, hj, hls, hVn, hQ, hL, hM⟩ := hrel
          have HQ := mkHid hQ
          have HL := mkHid hL
          have HM := mkHid hM
          have HLS := mkHid hls
          have HVN := mkHid hVn
          clear hQ hL hM hls hVn
          by_cases hlt : j < ts.length
          · obtain ⟨b, off, rfl, x0, x1⟩ := H1.out.at HQ.out.2 j hlt
            have hji : (j : Int) < ts.length := by omega
            obtain ⟨i, hi⟩ : ∃ i, i = (ts.getD j (0, 0)).1 := ⟨_, rfl⟩
            obtain ⟨r, hr⟩ : ∃ r, r = (ts.getD j (0, 0)).2 := ⟨_, rfl⟩
            rw [← hi] at x0
            rw [← hr] at x1
            clear hi hr
            have hbw : Below wr.heap.size wr (wr.alloc (.cells #[.int .i64 i, .int .i64 r] 49)) := (Below.refl _ wr).alloc (Nat.le_refl _) _
            have HBW := mkHid hbw
            have HQW := mkHid (HQ.out.below hbw)
            have HLW := mkHid (HL.out.pk (Pk.below Pr hbw))
            have HQX : Hid (Qp w (wr.alloc (.cells #[.int .i64 i, .int .i64 r] 49)) p V (fun k => Pr k ∨ k = wr.heap.size)) := mkHid (HQ.out.more wr.heap.size rfl (fun k hk => hk) hbw (by simp))
            clear hbw
            by_cases hneg : i < 0
            · have HNO : Hid (i < 0 ∨ (ls.length : Int) ≤ i ∨ ∃ k : Nat, i = k ∧ go.getD k false = true) := mkHid (.inl hneg)
              by_cases hr : r.tmod 5 = 0
              · have hrd : (r.tmod 5 == 0) = true := by simp [hr]
                go_wp2_with (first | (go_at_call 19; refine (qp_drop_gone HQW.out i _ (HM.out.none HNO.out) HE.out).mono ?_; rintro e w' ⟨rfl, rfl⟩))
                go_roundw
                case rel => exact ⟨j + 1, ls, go, V, by go_num, rfl, by omega, HLS.out, HVN.out, HQW.out, HLW.out, HM.out⟩
                case measure => simp [intOf]; omega
              · have hrd : (r.tmod 5 == 0) = false := by simp [hr]
                go_wp2_with (first | (go_at_call 20; refine (qp_turn_gone HQW.out i r _ (HM.out.none HNO.out) HE.out).mono ?_; rintro e w' ⟨rfl, rfl⟩))
                go_roundw
                case rel => exact ⟨j + 1, ls, go, V, by go_num, rfl, by omega, HLS.out, HVN.out, HQW.out, HLW.out, HM.out⟩
                case measure => simp [intOf]; omega
            · by_cases hbg : (n : Int) ≤ i
              · have HNO : Hid (i < 0 ∨ (ls.length : Int) ≤ i ∨ ∃ k : Nat, i = k ∧ go.getD k false = true) := mkHid (.inr (.inl (by rw [HLS.out]; exact hbg)))
                by_cases hr : r.tmod 5 = 0
                · have hrd : (r.tmod 5 == 0) = true := by simp [hr]
                  go_wp2_with (first | (go_at_call 19; refine (qp_drop_gone HQW.out i _ (HM.out.none HNO.out) HE.out).mono ?_; rintro e w' ⟨rfl, rfl⟩))
                  go_roundw
                  case rel => exact ⟨j + 1, ls, go, V, by go_num, rfl, by omega, HLS.out, HVN.out, HQW.out, HLW.out, HM.out⟩
                  case measure => simp [intOf]; omega
                · have hrd : (r.tmod 5 == 0) = false := by simp [hr]
                  go_wp2_with (first | (go_at_call 20; refine (qp_turn_gone HQW.out i r _ (HM.out.none HNO.out) HE.out).mono ?_; rintro e w' ⟨rfl, rfl⟩))
                  go_roundw
                  case rel => exact ⟨j + 1, ls, go, V, by go_num, rfl, by omega, HLS.out, HVN.out, HQW.out, HLW.out, HM.out⟩
                  case measure => simp [intOf]; omega
              · obtain ⟨k, rfl⟩ := Int.eq_ofNat_of_zero_le (show 0 ≤ i by omega)
                have hkn : k < n := by omega
                have hki : (k : Int) < n := by omega
                obtain ⟨g0, gf, gP, gB, gL⟩ := HLW.out.gat HLS.out k hkn
                by_cases hg : go.getD k false = true
                · rw [hg] at g0
                  have HNO : Hid ((k : Int) < 0 ∨ (ls.length : Int) ≤ (k : Int) ∨ ∃ k' : Nat, (k : Int) = k' ∧ go.getD k' false = true) := mkHid (.inr (.inr ⟨k, rfl, hg⟩))
                  clear hg
                  by_cases hr : r.tmod 5 = 0
                  · have hrd : (r.tmod 5 == 0) = true := by simp [hr]
                    go_wp2_with (first | (go_at_call 19; refine (qp_drop_gone HQW.out (k : Int) _ (HM.out.none HNO.out) HE.out).mono ?_; rintro e w' ⟨rfl, rfl⟩))
                    go_roundw
                    case rel => exact ⟨j + 1, ls, go, V, by go_num, rfl, by omega, HLS.out, HVN.out, HQW.out, HLW.out, HM.out⟩
                    case measure => simp [intOf]; omega
                  · have hrd : (r.tmod 5 == 0) = false := by simp [hr]
                    go_wp2_with (first | (go_at_call 20; refine (qp_turn_gone HQW.out (k : Int) r _ (HM.out.none HNO.out) HE.out).mono ?_; rintro e w' ⟨rfl, rfl⟩))
                    go_roundw
                    case rel => exact ⟨j + 1, ls, go, V, by go_num, rfl, by omega, HLS.out, HVN.out, HQW.out, HLW.out, HM.out⟩
                    case measure => simp [intOf]; omega
                · have hg : go.getD k false = false := by simpa using hg
                  rw [hg] at g0
                  have HG := mkHid hg
                  clear hg
                  by_cases hr : r.tmod 5 = 0
                  · have hrd : (r.tmod 5 == 0) = true := by simp [hr]
                    go_wp2_with (first | (go_at_call 19; (refine (qp_drop HQW.out (k : Int) (HM.out.some (by rw [HLS.out]; exact hkn) HG.out) (by have := HVN.out; have := HS.out; omega)).mono ?_; rintro e w3 ⟨rfl, hq⟩; obtain ⟨V', q1, q2, q3, q4⟩ := hq.out; have g3 := q4.cell g0 gP; have f3 := q4.frozen gf gP gL; have e5 : wrap64 ((V.length : Int) - 1) = (V'.length : Int) := (by have := HVN.out; have := HS.out; unfold wrap64; omega); have HQ3 := mkHid q1; have HM3 := mkHid q2; have HV3 := mkHid q3; have HK3 := mkHid q4; clear hq q1 q2 q3 q4)))
                    go_roundw
                    case rel =>
                      have hk : Kept (fun x => x = gb) w3 (w3.setCell ⟨gb, k, none⟩ (.bool true)) := Kept.setCell (F := fun x => x = gb) w3 (p := ⟨gb, k, none⟩) rfl _
                      exact ⟨j + 1, ls, go.set k true, V', by go_num, by first | rfl | rw [e5], by omega, HLS.out, by have := HV3.out; have := HVN.out; omega, HQ3.out.wrote hk (fun x hx => by rw [hx]; exact ⟨gP, gB⟩), (HLW.out.pk HK3.out).gone HLS.out k, HM.out.drop HLW.out.gl (by rw [HLS.out]; exact hkn) HM3.out⟩
                    case measure => simp [intOf]; omega
                  · have hrd : (r.tmod 5 == 0) = false := by simp [hr]
                    obtain ⟨lb, rfl, l0, lf, lP, lB, lL⟩ := HLW.out.lat HLS.out k hkn
                    obtain ⟨lx, hlx⟩ : ∃ lx, lx = ls.getD k 0 := ⟨_, rfl⟩
                    rw [← hlx] at l0
                    clear hlx
                    go_wp2_with (first | (go_at_call 20; refine (qp_turn HQX.out (k : Int) r (HM.out.some (by rw [HLS.out]; exact hkn) HG.out) (by have := HVN.out; have := HS.out; omega)).mono ?_; rintro e w3 ⟨rfl, hq⟩; obtain ⟨V', q1, q2, q3, q4⟩ := hq.out; have l3 := q4.cell l0 (Or.inl lP); have f3 := q4.frozen lf (Or.inl lP) lL; have t1 : w3.cell? ⟨wr.heap.size, 1, none⟩ = some (.int .i64 r) := q4.cell (by simp) (Or.inr rfl); have HQ3 := mkHid (q1.less (fun k hk => Or.inl hk)); have HM3 := mkHid q2; have HV3 := mkHid q3; have HK3 := mkHid (q4.less (Ps := Pr) (fun k hk => Or.inl hk)); clear hq q1 q2 q3 q4))
                    go_roundw
                    case rel =>
                      have hk : Kept (fun x => x = lb) w3 (w3.setCell ⟨lb, k, none⟩ (.int .i64 r)) := Kept.setCell (F := fun x => x = lb) w3 (p := ⟨lb, k, none⟩) rfl _
                      exact ⟨j + 1, ls.set k r, go, V', by go_num, by rw [HV3.out], by omega, by rw [List.length_set]; exact HLS.out, by rw [HV3.out]; exact HVN.out, HQ3.out.wrote hk (fun x hx => by rw [hx]; exact ⟨lP, lB⟩), (HLW.out.pk HK3.out).turned HLS.out k r, HM.out.turn (by rw [HLS.out]; exact hkn) HG.out HM3.out⟩
                    case measure => simp [intOf]; omega
          · obtain rfl : j = ts.length := by omega
            go_wp2
            obtain ⟨L, hL⟩ : ∃ L, L = V.length := ⟨_, rfl⟩
            obtain ⟨bb, hbb⟩ : ∃ bb, bb = wr.heap.size := ⟨_, rfl⟩
            have hbw : Below wr.heap.size wr (wr.alloc (.cells #[.int .i64 0, .int .i64 0] 52)) := (Below.refl _ wr).alloc (Nat.le_refl _) _
            have HBOX : Hid (Box (wr.alloc (.cells #[.int .i64 0, .int .i64 0] 52)) bb (0, 0)) := mkHid (by unfold Box; rw [hbb]; exact heap_alloc_new wr _)
            have HQW : Hid (Qp w (wr.alloc (.cells #[.int .i64 0, .int .i64 0] 52)) p V (fun k => Pr k ∨ k = bb)) := mkHid (HQ.out.more bb hbb.symm (fun k hk => hk) hbw (by rw [hbb]; simp))
            have HLW : Hid (Ls w (wr.alloc (.cells #[.int .i64 0, .int .i64 0] 52)) (.slice la n lc) (.slice (some ⟨gb, 0, none⟩) n n) ls go (fun k => Pr k ∨ k = bb)) := mkHid ((HL.out.pk (Pk.below Pr hbw)).more (fun k hk => .inl hk))
            have hbg : ¬ gb = bb := by have := (HL.out.g.lt gb rfl).2; omega
            have hbg2 : ¬ bb = gb := fun e => hbg e.symm
            have HLB : Hid (∀ k, (Value.slice la n lc).ownBlock = some k → k ≠ bb) := mkHid (fun k hk => by have := (HL.out.l.lt k hk).2; omega)
            have HWB : Hid (w.heap.size ≤ bb) := mkHid (by rw [hbb]; exact HQ.out.2.size)
            have HLL := mkHid hL
            have HLN : Hid (L ≤ 4096) := mkHid (by have := HVN.out; have := HS.out; omega)
            have hLi : (L : Int) ≤ 4096 := by have := HLN.out; omega
            obtain ⟨W0, hW0⟩ : ∃ W0, W0 = wr.alloc (.cells #[.int .i64 0, .int .i64 0] 52) := ⟨_, rfl⟩
            rw [← hW0] at HBOX HQW HLW
            rw [← hW0, ← hbb, ← hL]
            clear hbw hL hbb hW0 HQ HL HVN
            go_loopw [16] (fun iv wr' => ∃ (c : Nat) (V' : List Th) (go' : List Bool) (be : Th), iv = .int .i64 (c : Int) ∧ c + V'.length = L ∧ Qp w wr' p V' (fun k => Pr k ∨ k = bb) ∧ Ls w wr' (.slice la n lc) (.slice (some ⟨gb, 0, none⟩) n n) ls go' (fun k => Pr k ∨ k = bb) ∧ Mem7 ls go' V' ∧ Box wr' bb be ∧ (0 < c → ∀ y ∈ V', Ahd be y)) (fun iv _ => L - (intOf iv).toNat)
            case atStart => exact ⟨0, V, go, (0, 0), rfl, by have := HLL.out; omega, HQW.out, HLW.out, HM.out, HBOX.out, fun h => absurd h (Nat.lt_irrefl _)⟩
            case round =>
              clear HQW HLW HM HBOX
              obtain ⟨c, V', go', be, rfl, hc, hQ, hLs, hM, hB, hA⟩ := hrel
              have HQ := mkHid hQ
              have HL := mkHid hLs
              have HM := mkHid hM
              have HB := mkHid hB
              have HA := mkHid hA
              have HC := mkHid hc
              clear hQ hLs hM hB hA
              by_cases hcl : c < L
              · have hcli : (c : Int) < L := by omega
                have hvl : 0 < V'.length := by omega
                obtain ⟨k, hk0, hk1, hk2, hk3⟩ := (HM.out _).mp (gt_zero_mem hvl)
                rw [HLS.out] at hk0
                obtain ⟨lb, rfl, l0, lf, lP, lB, lL⟩ := HL.out.lat HLS.out k hk0
                obtain ⟨g0, gf, gP, gB, gL⟩ := HL.out.gat HLS.out k hk0
                rw [hk2] at g0
                rw [← hk3] at l0
                obtain ⟨lr, hlr⟩ : ∃ lr, lr = (gt V' 0).2 := ⟨_, rfl⟩
                have hx : gt V' 0 = ((k : Int), lr) := Prod.ext hk1 hlr.symm
                rw [← hlr] at l0
                obtain ⟨b0, b1, _, _⟩ := HB.out.cells
                have HXX := mkHid hx
                have hkn : (k : Int) < n := by omega
                have hk00 : ¬ (k : Int) < 0 := by omega
                have HG := mkHid hk2
                have HVL := mkHid hvl
                have HPOP : Hid (Calls Tryd.prog 21 #[.pointer (some ⟨p, 0, none⟩)] wr fun e w' => e = .returned (.tuple #[.agg #[.int .i64 (k : Int), .int .i64 lr], .nilIface]) ∧ Hid (∃ V'', Qp w w' p V'' (fun k => Pr k ∨ k = bb) ∧ (∀ y, y ∈ V'' ↔ y ∈ V' ∧ y.1 ≠ (k : Int)) ∧ V''.length + 1 = V'.length ∧ Pk (fun k => Pr k ∨ k = bb) wr w')) := mkHid (by
                  have := qp_pop HQ.out hvl (by have := HLN.out; omega)
                  rw [hx] at this
                  exact this)
                have HAX : Hid (0 < c → Ahd be ((k : Int), lr)) := mkHid (fun h => by rw [← hx]; exact HA.out h _ (gt_zero_mem hvl))
                have nlg : ¬ lb = gb := fun e => HL.out.ne lb rfl (by rw [e]; rfl)
                have nlb : ¬ lb = bb := HLB.out lb rfl
                clear hk0 hk1 hk2 hk3 hlr hx hvl hc
                have POPPED : ∀ (w3 : World), Hid (∃ V'', Qp w w3 p V'' (fun k => Pr k ∨ k = bb) ∧ (∀ y, y ∈ V'' ↔ y ∈ V' ∧ y.1 ≠ (k : Int)) ∧ V''.length + 1 = V'.length ∧ Pk (fun k => Pr k ∨ k = bb) wr w3) → Hid (w3.cell? ⟨gb, k, none⟩ = some (.bool false) ∧ w3.frozen? ⟨gb, k, none⟩ = false ∧ w3.cell? ⟨lb, k, none⟩ = some (.int .i64 lr) ∧ w3.cell? ⟨bb, 0, none⟩ = some (.int .i64 be.1) ∧ w3.cell? ⟨bb, 1, none⟩ = some (.int .i64 be.2) ∧ w3.frozen? ⟨bb, 0, none⟩ = false ∧ w3.frozen? ⟨bb, 1, none⟩ = false ∧ bb < w3.heap.size ∧ gb < w3.heap.size) := fun w3 h => mkHid (by
                  obtain ⟨V'', q1, q2, q3, q4⟩ := h.out
                  have hb3 := (HB.out.pk q4 (Or.inr rfl)).cells
                  have hbl := (Array.getElem?_eq_some_iff.1 HB.out).1
                  exact ⟨q4.cell g0 gP, q4.frozen gf gP gL, q4.cell l0 lP, hb3.1, hb3.2.1, hb3.2.2.1, hb3.2.2.2, Nat.lt_of_lt_of_le hbl q4.1, Nat.lt_of_lt_of_le gL q4.1⟩)
                have PP := mkHid POPPED
                clear POPPED g0 gf l0 lf b0 b1 lP lB lL gP gB gL
                go_wp2_with (first | (go_at_call 21; refine HPOP.out.mono ?_; rintro e w3 ⟨rfl, hq⟩; have HQ3 := hq; have HP3 := PP.out w3 hq; clear hq))
                clear HPOP PP
                obtain ⟨xb, hxb⟩ : ∃ xb, xb = w3.heap.size := ⟨_, rfl⟩
                obtain ⟨W4, hW4⟩ : ∃ W4, W4 = w3.alloc (.cells #[.int .i64 (k : Int), .int .i64 lr] 52) := ⟨_, rfl⟩
                have hb4 : Below w3.heap.size w3 W4 := by rw [hW4]; exact (Below.refl _ w3).alloc (Nat.le_refl _) _
                have s0 : W4.cell? ⟨xb, 0, none⟩ = some (.int .i64 (k : Int)) := by rw [hW4, hxb]; simp
                have s1 : W4.cell? ⟨xb, 1, none⟩ = some (.int .i64 lr) := by rw [hW4, hxb]; simp
                obtain ⟨g0', f0', l0', b0', b1', fb0', fb1', lb', lg'⟩ := HP3.out
                have g0 := bcell hb4 g0'
                have l0 := bcell hb4 l0'
                have b0 := bcell hb4 b0'
                have b1 := bcell hb4 b1'
                have HFZ : Hid (W4.frozen? ⟨gb, k, none⟩ = false ∧ W4.frozen? ⟨bb, 0, none⟩ = false ∧ W4.frozen? ⟨bb, 1, none⟩ = false) := mkHid ⟨bfrozen hb4 lg' f0', bfrozen hb4 lb' fb0', bfrozen hb4 lb' fb1'⟩
                have HBG : Hid (bb < W4.heap.size ∧ gb < W4.heap.size) := mkHid ⟨Nat.lt_of_lt_of_le lb' hb4.size, Nat.lt_of_lt_of_le lg' hb4.size⟩
                have nxg : ¬ xb = gb := by omega
                have nxb : ¬ xb = bb := by omega
                have nx1 : ¬ gb = xb := by omega
                have nx2 : ¬ bb = xb := by omega
                have HB4 := mkHid hb4
                rw [← hW4, ← hxb]
                clear hW4 hxb hb4 g0' f0' l0' b0' b1' fb0' fb1' lb' lg' HP3
                have hkn2 : ¬ n ≤ k := by omega
                have hkn3 : decide (n ≤ k) = false := decide_eq_false hkn2
                have REST : ∀ (W5 : World), Below W4.heap.size W4 W5 → Hid ((W5.cell? ⟨xb, 0, none⟩ = some (.int .i64 (k : Int)) ∧ W5.cell? ⟨xb, 1, none⟩ = some (.int .i64 lr) ∧ W5.cell? ⟨gb, k, none⟩ = some (.bool false) ∧ W5.cell? ⟨lb, k, none⟩ = some (.int .i64 lr) ∧ W5.cell? ⟨bb, 0, none⟩ = some (.int .i64 be.1) ∧ W5.cell? ⟨bb, 1, none⟩ = some (.int .i64 be.2)) ∧ W5.frozen? ⟨gb, k, none⟩ = false ∧ W5.frozen? ⟨bb, 0, none⟩ = false ∧ W5.frozen? ⟨bb, 1, none⟩ = false) := fun W5 hb => mkHid ⟨⟨bcell hb s0, bcell hb s1, bcell hb g0, bcell hb l0, bcell hb b0, bcell hb b1⟩, bfrozen hb HBG.out.2 HFZ.out.1, bfrozen hb HBG.out.1 HFZ.out.2.1, bfrozen hb HBG.out.1 HFZ.out.2.2⟩
                have HREST := mkHid REST
                clear REST
                by_cases hc0 : c = 0
                · subst hc0
                  go_quiet (fail)
                  have hb5 : Below W4.heap.size W4 (W4.drewN nq) := ⟨rfl, rfl, rfl, Nat.le_refl _, fun _ _ => rfl⟩
                  obtain ⟨W5, hW5⟩ : ∃ W5, W5 = W4.drewN nq := ⟨_, rfl⟩
                  rw [← hW5] at hb5
                  rw [← hW5]
                  clear hW5
                  obtain ⟨⟨t0, t1, t2, t3, t4, t5⟩, fz0, fz1, fz2⟩ := (HREST.out W5 hb5).out
                  have HB5 : Hid (Below W4.heap.size W4 W5) := mkHid hb5
                  clear HREST s0 s1 g0 l0 b0 b1
                  go_wp2
                  go_roundw
                  case rel =>
                    obtain ⟨V'', q1, q2, q3, q4⟩ := HQ3.out
                    have q5 := (q1.below HB4.out).below HB5.out
                    have q6 := (q4.trans (Pk.below _ HB4.out)).trans (Pk.below _ HB5.out)
                    have k1 : Kept (fun x => x = gb) W5 (W5.setCell ⟨gb, k, none⟩ (.bool true)) := Kept.setCell (F := fun x => x = gb) _ (p := ⟨gb, k, none⟩) rfl _
                    have k2 := set_cell2 (W5.setCell ⟨gb, k, none⟩ (.bool true)) bb (.int .i64 (k : Int)) (.int .i64 lr)
                    have hP := HL.out.gp gb rfl
                    have hW : w.heap.size ≤ gb := (HL.out.g.lt gb rfl).1
                    refine ⟨0 + 1, V'', go'.set k true, ((k : Int), lr), by go_num, by have := HC.out; omega, (q5.wrote k1 (fun x hx => by rw [hx]; exact ⟨hP, hW⟩)).wrote k2 (fun x hx => by rw [hx]; exact ⟨Or.inr rfl, HWB.out⟩), ((HL.out.pk q6).gone HLS.out k).keep k2 (fun e => HLB.out bb e rfl) (fun e => hbg (by simpa [Value.ownBlock] using e)), HM.out.drop HL.out.gl (by rw [HLS.out]; omega) q2, ((HB.out.pk q6 (Or.inr rfl)).keep k1 hbg2).set ((k : Int), lr), fun _ y hy => ?_⟩
                    obtain ⟨y1, y2⟩ := (q2 y).mp hy
                    rcases HQ.out.first y1 with e | e
                    · rw [HXX.out] at e
                      exact absurd (by rw [e]) y2
                    · rw [HXX.out] at e
                      exact e
                  case measure => simp [intOf]; omega
                · have hcp : 0 < c := by omega
                  have hcpi : (0 : Int) < c := by omega
                  have hax : ahb be ((k : Int), lr) = true := ahb_true (HAX.out hcp)
                  have hcd : decide (0 < c) = true := by simp [hcp]
                  go_region_held3 (fun w' => w'.cell? ⟨xb, 0, none⟩ = some (.int .i64 (k : Int)) ∧ w'.cell? ⟨xb, 1, none⟩ = some (.int .i64 lr) ∧ w'.cell? ⟨gb, k, none⟩ = some (.bool false) ∧ w'.cell? ⟨lb, k, none⟩ = some (.int .i64 lr) ∧ w'.cell? ⟨bb, 0, none⟩ = some (.int .i64 be.1) ∧ w'.cell? ⟨bb, 1, none⟩ = some (.int .i64 be.2)) (go_keep) (first | (go_at_call 22; refine (ref_ahead be ((k : Int), lr) _).mono ?_; rintro e W5 ⟨rfl, hb⟩; have hb5 : Below W4.heap.size W4 W5 := ((Below.refl _ W4).drew).trans hb; obtain ⟨⟨v0, v1, v2, v3, v4, v5⟩, _, _, _⟩ := (HREST.out W5 hb5).out; clear hb))
                  clear v0 v1 v2 v3 v4 v5
                  obtain ⟨⟨t0, t1, t2, t3, t4, t5⟩, fz0, fz1, fz2⟩ := (HREST.out W5 hb5).out
                  have HB5 : Hid (Below W4.heap.size W4 W5) := mkHid hb5
                  clear HREST s0 s1 g0 l0 b0 b1
                  go_wp2
                  go_roundw
                  case rel =>
                    obtain ⟨V'', q1, q2, q3, q4⟩ := HQ3.out
                    have q5 := (q1.below HB4.out).below HB5.out
                    have q6 := (q4.trans (Pk.below _ HB4.out)).trans (Pk.below _ HB5.out)
                    have k1 : Kept (fun x => x = gb) W5 (W5.setCell ⟨gb, k, none⟩ (.bool true)) := Kept.setCell (F := fun x => x = gb) _ (p := ⟨gb, k, none⟩) rfl _
                    have k2 := set_cell2 (W5.setCell ⟨gb, k, none⟩ (.bool true)) bb (.int .i64 (k : Int)) (.int .i64 lr)
                    have hP := HL.out.gp gb rfl
                    have hW : w.heap.size ≤ gb := (HL.out.g.lt gb rfl).1
                    refine ⟨c + 1, V'', go'.set k true, ((k : Int), lr), by go_num, by have := HC.out; omega, (q5.wrote k1 (fun x hx => by rw [hx]; exact ⟨hP, hW⟩)).wrote k2 (fun x hx => by rw [hx]; exact ⟨Or.inr rfl, HWB.out⟩), ((HL.out.pk q6).gone HLS.out k).keep k2 (fun e => HLB.out bb e rfl) (fun e => hbg (by simpa [Value.ownBlock] using e)), HM.out.drop HL.out.gl (by rw [HLS.out]; omega) q2, ((HB.out.pk q6 (Or.inr rfl)).keep k1 hbg2).set ((k : Int), lr), fun _ y hy => ?_⟩
                    obtain ⟨y1, y2⟩ := (q2 y).mp hy
                    rcases HQ.out.first y1 with e | e
                    · rw [HXX.out] at e
                      exact absurd (by rw [e]) y2
                    · rw [HXX.out] at e
                      exact e
                  case measure => simp [intOf]; omega
              · have hv : V' = [] := List.eq_nil_of_length_eq_zero (by omega)
                subst hv
                have hcl2 : ¬ (c : Int) < L := by omega
                have heq := HEQ.out
                go_wp2_with (first | (go_at_call 21; refine (qp_pop_gone HQ.out ea HE.out).mono ?_; rintro e w3 ⟨rfl, hb⟩; have HB3 := mkHid hb; have he3 : (w3.alloc (.cells #[.int .i64 0, .int .i64 0] 52)).cell? ⟨0, 0, none⟩ = some (.iface 111 (.pointer (some ea))) := bcell ((Below.refl _ w3).alloc (Nat.le_refl _) _) (bcell hb (bcell HQ.out.2 HE.out)); clear hb) | (go_at_call 23; refine (qp_len ((HQ.out.below HB3.out).below ((Below.refl _ w3).alloc (Nat.le_refl _) (.cells #[.int .i64 0, .int .i64 0] 52)))).mono ?_; rintro e w4 ⟨rfl, rfl⟩))
                go_ret
                refine ⟨rfl, ?_⟩
                have h1 := HQ.out.2.trans (HB3.out.mono HQ.out.2.size)
                exact h1.alloc h1.size _
end Go.Proofs.YtjlmkmhggkcbhaaDoor
