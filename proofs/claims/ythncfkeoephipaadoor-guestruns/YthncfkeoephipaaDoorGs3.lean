/- A guest in memory: its block, its tasks, its jobs; the calls that only read. -/
import Derived.Test.YthncfkeoephipaaDoorGs1
import Derived.Test.YthncfkeoephipaaDoorTillD
import Derived.Laws.ResultCell
import Derived.Laws.Rows
namespace Go.Proofs.YthncfkeoephipaaDoor
open Go.ChangeShapes Go.WideShapes Go.ChangeAt Go.RowKit
attribute [local go_sem] World.cell?_alloc_some frozen_alloc_some

abbrev vJ (j : Jb) : Value := .agg #[.int .i64 (j.tk : Int), .int .i64 j.rl, .int .i64 j.dl, .int .i64 j.lf, .int .i64 j.dn]
abbrev oJ (j : Jb) : Obj := .cells #[.int .i64 (j.tk : Int), .int .i64 j.rl, .int .i64 j.dl, .int .i64 j.lf, .int .i64 j.dn] 45
abbrev j0 : Jb := ⟨0, 0, 0, 0, 0⟩
def cj (j : Jb) : List Value := [.int .i64 (j.tk : Int), .int .i64 j.rl, .int .i64 j.dl, .int .i64 j.lf, .int .i64 j.dn]
def cq (x : Tq) : List Value := [.int .i64 x.1.1, .int .i64 x.1.2.1, .int .i64 x.1.2.2.1, .int .i64 x.1.2.2.2, .int .i64 x.2]
theorem cj_len (j : Jb) : (cj j).length = 5 := rfl
theorem cq_len (x : Tq) : (cq x).length = 5 := rfl
theorem onej (j : Jb) : ∀ u ∈ cj j, u.oneCell' = true := by
  intro u hx
  simp only [cj, List.mem_cons, List.not_mem_nil, or_false] at hx
  rcases hx with rfl | rfl | rfl | rfl | rfl <;> rfl
theorem oneq (x : Tq) : ∀ u ∈ cq x, u.oneCell' = true := by
  intro u hx
  simp only [cq, List.mem_cons, List.not_mem_nil, or_false] at hx
  rcases hx with rfl | rfl | rfl | rfl | rfl <;> rfl
theorem info_job : (Tryd.prog.info? 45).map (fun i => (i.zero, i.size, i.bytes)) = some (some (.agg #[.int .i64 0, .int .i64 0, .int .i64 0, .int .i64 0, .int .i64 0]), 5, 40) := by kernel_rfl
theorem size_job : (Tryd.prog.info? 45).map (·.size) = some 5 := by kernel_rfl
/-- Five cells of a job. -/
structure J5 (w : World) (g o : Nat) (j : Jb) : Prop where
  c0 : w.cell? ⟨g, o, none⟩ = some (.int .i64 (j.tk : Int))
  c1 : w.cell? ⟨g, o + 1, none⟩ = some (.int .i64 j.rl)
  c2 : w.cell? ⟨g, o + 2, none⟩ = some (.int .i64 j.dl)
  c3 : w.cell? ⟨g, o + 3, none⟩ = some (.int .i64 j.lf)
  c4 : w.cell? ⟨g, o + 4, none⟩ = some (.int .i64 j.dn)
  f : ∀ i, w.frozen? ⟨g, i, none⟩ = false
/-- Five cells of a task. -/
structure Q5 (w : World) (g o : Nat) (x : Tq) : Prop where
  c0 : w.cell? ⟨g, o, none⟩ = some (.int .i64 x.1.1)
  c1 : w.cell? ⟨g, o + 1, none⟩ = some (.int .i64 x.1.2.1)
  c2 : w.cell? ⟨g, o + 2, none⟩ = some (.int .i64 x.1.2.2.1)
  c3 : w.cell? ⟨g, o + 3, none⟩ = some (.int .i64 x.1.2.2.2)
  c4 : w.cell? ⟨g, o + 4, none⟩ = some (.int .i64 x.2)
  f : ∀ i, w.frozen? ⟨g, i, none⟩ = false
theorem J5.new (w : World) (j : Jb) : J5 (w.alloc (oJ j)) w.heap.size 0 j := by
  have h := heap_alloc_new w (oJ j)
  exact ⟨cell_of_block h rfl, cell_of_block h rfl, cell_of_block h rfl, cell_of_block h rfl, cell_of_block h rfl, fun _ => frozen_of_block h⟩
theorem J5.of_blk {w : World} {g : Nat} {j : Jb} (h : w.heap[g]? = some (oJ j)) : J5 w g 0 j :=
  ⟨cell_of_block h rfl, cell_of_block h rfl, cell_of_block h rfl, cell_of_block h rfl, cell_of_block h rfl, fun _ => frozen_of_block h⟩
def rul (p : Int) : FuncId := if p = 1 then 31 else 32
/-- A guest in its block, its tasks and its jobs in rows of their own. -/
structure GB (base : Nat) (w : World) (b : Nat) (p : Int) (tv jv : Value) (s : Gt) : Prop where
  blk : w.heap[b]? = some (.cells #[tv, jv, .func (.func (rul p)) #[] #[]] 65 (0, 0))
  town : w.ownsRow base 67 5 tv s.xs.length (s.xs.flatMap cq)
  jown : w.ownsRow base 45 5 jv s.js.length (s.js.flatMap cj)
  bb : base ≤ b
  tb : tv.ownBlock ≠ some b
  jb : jv.ownBlock ≠ some b
  tj : ∀ k, tv.ownBlock = some k → jv.ownBlock ≠ some k
/-- The blocks of a guest. -/
def Ft (tv jv : Value) (b k : Nat) : Prop := k = b ∨ tv.ownBlock = some k ∨ jv.ownBlock = some k
theorem GB.lt {base : Nat} {w : World} {b : Nat} {p : Int} {tv jv : Value} {s : Gt} (h : GB base w b p tv jv s) : b < w.heap.size := lt_of_heap h.blk
theorem GB.base_le {base : Nat} {w : World} {b : Nat} {p : Int} {tv jv : Value} {s : Gt} (h : GB base w b p tv jv s) : base ≤ w.heap.size := by
  have := h.lt; have := h.bb; omega
theorem GB.foot {base : Nat} {w : World} {b : Nat} {p : Int} {tv jv : Value} {s : Gt} (h : GB base w b p tv jv s) {k : Nat} (hk : Ft tv jv b k) : base ≤ k ∧ k < w.heap.size := by
  rcases hk with rfl | e | e
  · exact ⟨h.bb, h.lt⟩
  · exact h.town.lt k e
  · exact h.jown.lt k e
theorem GB.kept {F : Nat → Prop} {base : Nat} {w w' : World} {b : Nat} {p : Int} {tv jv : Value} {s : Gt} (h : GB base w b p tv jv s) (hk : Kept F w w') (hF : ∀ k, F k → Ft tv jv b k → False) : GB base w' b p tv jv s :=
  ⟨(hk.block b h.lt (fun f => hF b f (.inl rfl))).trans h.blk, ownN_kept h.town hk (fun k e f => hF k f (.inr (.inl e))), ownN_kept h.jown hk (fun k e f => hF k f (.inr (.inr e))), h.bb, h.tb, h.jb, h.tj⟩
theorem GB.below {base : Nat} {w w' : World} {b : Nat} {p : Int} {tv jv : Value} {s : Gt} (h : GB base w b p tv jv s) (hb : Below w.heap.size w w') : GB base w' b p tv jv s :=
  h.kept (kept_new (F := fun _ => False) hb) (fun _ f _ => f)
theorem GB.drewN {base : Nat} {w : World} {b : Nat} {p : Int} {tv jv : Value} {s : Gt} (h : GB base w b p tv jv s) (n : Nat) : GB base (w.drewN n) b p tv jv s := ⟨h.blk, h.town, h.jown, h.bb, h.tb, h.jb, h.tj⟩
theorem GB.c0 {base : Nat} {w : World} {b : Nat} {p : Int} {tv jv : Value} {s : Gt} (h : GB base w b p tv jv s) : w.cell? ⟨b, 0, none⟩ = some tv := cell_of_block h.blk rfl
theorem GB.c1 {base : Nat} {w : World} {b : Nat} {p : Int} {tv jv : Value} {s : Gt} (h : GB base w b p tv jv s) : w.cell? ⟨b, 1, none⟩ = some jv := cell_of_block h.blk rfl
theorem GB.c2 {base : Nat} {w : World} {b : Nat} {p : Int} {tv jv : Value} {s : Gt} (h : GB base w b p tv jv s) : w.cell? ⟨b, 2, none⟩ = some (.func (.func (rul p)) #[] #[]) := cell_of_block h.blk rfl
theorem GB.fz {base : Nat} {w : World} {b : Nat} {p : Int} {tv jv : Value} {s : Gt} (h : GB base w b p tv jv s) (i : Nat) : w.frozen? ⟨b, i, none⟩ = false := frozen_of_block h.blk
theorem own_job {w : World} {base : Nat} {jv : Value} {js : List Jb} (h : w.ownsRow base 45 5 jv js.length (js.flatMap cj)) {i : Nat} {j : Jb} (hj : js[i]? = some j) : ∃ g c, jv = .slice (some ⟨g, 0, none⟩) js.length c ∧ J5 w g (i * 5) j := by
  obtain ⟨g, c, rfl, hg, hl⟩ := own_addr h (List.getElem?_eq_some_iff.mp hj).1
  have hc : ∀ r u, r < 5 → (cj j)[r]? = some u → w.cell? ⟨g, i * 5 + r, none⟩ = some u ∧ ∀ i, w.frozen? ⟨g, i, none⟩ = false := fun r u hr hu => by
    have hq := own_cell h ((fl_get cj 5 cj_len js i r j hj hr).trans hu)
    refine ⟨hq.1, fun i => ?_⟩
    rcases h.2 with ⟨e, _⟩ | ⟨g', cap', cur, e1, hb, hg, _⟩
    · simp at e
    · simp only [Value.slice.injEq, Option.some.injEq, Addr.mk.injEq] at e1
      obtain ⟨⟨rfl, _⟩, _⟩ := e1
      exact frozen_of_block hg
  exact ⟨g, c, rfl, ⟨(hc 0 _ (by omega) rfl).1, (hc 1 _ (by omega) rfl).1, (hc 2 _ (by omega) rfl).1, (hc 3 _ (by omega) rfl).1, (hc 4 _ (by omega) rfl).1, (hc 0 _ (by omega) rfl).2⟩⟩
theorem own_task {w : World} {base : Nat} {tv : Value} {xs : List Tq} (h : w.ownsRow base 67 5 tv xs.length (xs.flatMap cq)) {i : Nat} {x : Tq} (hj : xs[i]? = some x) : ∃ g c, tv = .slice (some ⟨g, 0, none⟩) xs.length c ∧ Q5 w g (i * 5) x := by
  obtain ⟨g, c, rfl, hg, hl⟩ := own_addr h (List.getElem?_eq_some_iff.mp hj).1
  have hc : ∀ r u, r < 5 → (cq x)[r]? = some u → w.cell? ⟨g, i * 5 + r, none⟩ = some u ∧ ∀ i, w.frozen? ⟨g, i, none⟩ = false := fun r u hr hu => by
    have hq := own_cell h ((fl_get cq 5 cq_len xs i r x hj hr).trans hu)
    refine ⟨hq.1, fun i => ?_⟩
    rcases h.2 with ⟨e, _⟩ | ⟨g', cap', cur, e1, hb, hg, _⟩
    · simp at e
    · simp only [Value.slice.injEq, Option.some.injEq, Addr.mk.injEq] at e1
      obtain ⟨⟨rfl, _⟩, _⟩ := e1
      exact frozen_of_block hg
  exact ⟨g, c, rfl, ⟨(hc 0 _ (by omega) rfl).1, (hc 1 _ (by omega) rfl).1, (hc 2 _ (by omega) rfl).1, (hc 3 _ (by omega) rfl).1, (hc 4 _ (by omega) rfl).1, (hc 0 _ (by omega) rfl).2⟩⟩
theorem before_is (w : World) (a b : Jb) : Calls Tryd.prog 32 #[vJ a, vJ b] w fun e w' => e = .returned (.bool (decide (a.tk < b.tk))) ∧ Below w.heap.size w w' := by
  obtain ⟨ta, ra, da, la, na⟩ := a
  obtain ⟨tb, rb, db, lb, nb⟩ := b
  go_enter Tryd.func32, Tryd.ntmps32
  go_wp2
  go_ret
  exact ⟨by simp, ba (ba (Below.refl _ _) _) _⟩
theorem earlier_is (w : World) (a b : Jb) : Calls Tryd.prog 31 #[vJ a, vJ b] w fun e w' => e = .returned (.bool (ahd 1 a b)) ∧ Below w.heap.size w w' := by
  obtain ⟨ta, ra, da, la, na⟩ := a
  obtain ⟨tb, rb, db, lb, nb⟩ := b
  by_cases e : da = db
  · subst e
    have ea : ahd 1 ⟨ta, ra, da, la, na⟩ ⟨tb, rb, da, lb, nb⟩ = decide (ta < tb) := by simp [ahd]
    rw [ea]
    go_enter Tryd.func31, Tryd.ntmps31
    go_wp2_with (go_at_call 32; refine (before_is _ ⟨ta, ra, da, la, na⟩ ⟨tb, rb, da, lb, nb⟩).mono ?_; rintro e w2 ⟨rfl, b2⟩; have HB2 := mkHid (bt (ba (ba (Below.refl _ w) _) _) b2); clear b2)
    go_ret
    exact ⟨rfl, HB2.out⟩
  · have ea : ahd 1 ⟨ta, ra, da, la, na⟩ ⟨tb, rb, db, lb, nb⟩ = decide (da < db) := by simp [ahd, e]
    rw [ea]
    go_enter Tryd.func31, Tryd.ntmps31
    go_wp2
    go_ret
    exact ⟨rfl, ba (ba (Below.refl _ _) _) _⟩
theorem rule_is (w : World) (p : Int) (hp : p = 1 ∨ p = 2) : Calls Tryd.prog 21 #[.int .i64 p] w fun e w' => e = .returned (.func (.func (rul p)) #[] #[]) ∧ w' = w := by
  rcases hp with rfl | rfl
  all_goals
    go_enter Tryd.func21, Tryd.ntmps21
    go_wp2
    go_ret
    exact ⟨rfl, rfl⟩
theorem work_is (base : Nat) (w : World) (b : Nat) (p : Int) (tv jv : Value) (s : Gt) (h : GB base w b p tv jv s) : Calls Tryd.prog 23 #[.pointer (some ⟨b, 0, none⟩)] w fun e w' => e = .returned (.bool (decide (0 < (s.js.length : Int)))) ∧ w' = w := by
  have c1 := h.c1
  obtain ⟨a, c, rfl, hc⟩ := own_sh h.jown
  clear h
  go_enter Tryd.func23, Tryd.ntmps23
  go_wp2
  go_ret
  exact ⟨by simp, rfl⟩
set_option maxHeartbeats 1600000 in
theorem holds_is (base : Nat) (w : World) (b : Nat) (p : Int) (tv jv : Value) (s : Gt) (j : Jb) (h : GB base w b p tv jv s) (hj : j.tk < s.xs.length) : Calls Tryd.prog 33 #[.pointer (some ⟨b, 0, none⟩), vJ j] w fun e w' => e = .returned (.bool (hol s.ts j)) ∧ Below w.heap.size w w' := by
  obtain ⟨x, hx⟩ : ∃ x, s.xs[j.tk]? = some x := ⟨_, List.getElem?_eq_getElem hj⟩
  have eS := tkS_at (ts_at hx)
  obtain ⟨g, c, rfl, q⟩ := own_task h.town hx
  have c0 := h.c0
  have q3 := q.c3
  have hB := GB.lt h
  clear q h
  unfold hol
  rw [eS]
  clear eS
  obtain ⟨⟨xc, xp, xd, xS⟩, xa⟩ := x
  simp only at q3 ⊢
  obtain ⟨k, rl, dl, lf, dn⟩ := j
  simp only at q3 hj ⊢
  have hji : (k : Int) < s.xs.length := by omega
  clear hx
  by_cases e1 : 0 < dn
  · by_cases e2 : dn < xS
    · rw [decide_eq_true e1, decide_eq_true e2]
      go_enter Tryd.func33, Tryd.ntmps33
      go_wp2
      go_quiet (fail)
      go_wp2
      go_ret
      exact ⟨rfl, ⟨rfl, rfl, rfl, by simp, fun _ hk => heap_alloc_old w _ hk⟩⟩
    · rw [decide_eq_true e1, decide_eq_false e2]
      have n2 : decide (dn < xS) = false := decide_eq_false e2
      go_enter Tryd.func33, Tryd.ntmps33
      go_wp2
      go_quiet (fail)
      go_wp2
      go_ret
      exact ⟨by simp, ⟨rfl, rfl, rfl, by simp, fun _ hk => heap_alloc_old w _ hk⟩⟩
  · rw [decide_eq_false e1]
    have n1 : decide (0 < dn) = false := decide_eq_false e1
    go_enter Tryd.func33, Tryd.ntmps33
    go_wp2
    go_quiet (fail)
    go_wp2
    go_ret
    exact ⟨rfl, ⟨rfl, rfl, rfl, by simp, fun _ hk => heap_alloc_old w _ hk⟩⟩
end Go.Proofs.YthncfkeoephipaaDoor
