import Derived.Test.YtcbimclgodkflaaDoorWother
import Derived.Test.YtcbimclgodkflaaDoorBaseA
/- A list of records in memory. -/
namespace Go.Proofs.YtcbimclgodkflaaDoor
open Go.ChangeShapes Go.WideShapes Go.ChangeAt Go.RowKit
set_option maxRecDepth 100000

theorem fl_len {α : Type} (f : α → List Value) (n : Nat) (hf : ∀ x, (f x).length = n) (xs : List α) : (xs.flatMap f).length = xs.length * n := by
  induction xs with
  | nil => simp
  | cons x r ih => rw [List.flatMap_cons, List.length_append, hf, ih, List.length_cons, Nat.add_mul]; omega
theorem fl_get {α : Type} (f : α → List Value) (n : Nat) (hf : ∀ x, (f x).length = n) : ∀ (xs : List α) (i r : Nat) (x : α), xs[i]? = some x → r < n → (xs.flatMap f)[i * n + r]? = (f x)[r]?
  | [], i, r, x, hx, _ => by simp at hx
  | y :: l, 0, r, x, hx, hr => by
    simp at hx
    subst hx
    rw [List.flatMap_cons, Nat.zero_mul, Nat.zero_add, List.getElem?_append_left (by rw [hf]; exact hr)]
  | y :: l, i + 1, r, x, hx, hr => by
    simp at hx
    have e : (i + 1) * n + r - n = i * n + r := by rw [Nat.add_mul]; omega
    rw [List.flatMap_cons, List.getElem?_append_right (by rw [hf, Nat.add_mul]; omega), hf, e]
    exact fl_get f n hf l i r x hx hr
/-- A record, with where its data lies. -/
abbrev Rp := Rc × Option Addr × Nat
def dv (t : Rp) : Value := .slice t.2.1 t.1.data.length t.2.2
def rcl (t : Rp) : List Value := [.int .i64 (t.1.gen : Int), .int .i64 (t.1.epoch : Int), .int .i64 (t.1.index : Int), dv t]
/-- A slice of records, with the blocks F that are its own. -/
structure Recs (F : Nat → Prop) (w : World) (v : Value) (ts : List Rp) : Prop where
  own : w.ownsRow 0 92 4 v ts.length (ts.flatMap rcl)
  row : ∀ k, v.ownBlock = some k → F k
  rd : ∀ t ∈ ts, Rd w (dv t) t.1.data
  blk : ∀ t ∈ ts, ∀ k, (dv t).ownBlock = some k → F k ∧ v.ownBlock ≠ some k
  ok : ∀ t ∈ ts, t.1.ok
  lt : ∀ k, F k → k < w.heap.size
theorem Recs.nil (w : World) : Recs (fun _ => False) w (.slice none 0 0) [] :=
  ⟨World.ownsRow_nil _ _ _ _, fun k hk => by simp [Value.ownBlock] at hk, fun _ h => by simp at h, fun _ h => by simp at h, fun _ h => by simp at h, fun _ h => h.elim⟩
theorem Recs.kept {F G : Nat → Prop} {w w' : World} {v : Value} {ts : List Rp} (h : Recs F w v ts) (hk : Kept G w w') (hn : ∀ k, F k → ¬ G k) : Recs F w' v ts := by
  obtain ⟨ho, hr, hd, hb, hok, hl⟩ := h
  refine ⟨⟨ho.1, ?_⟩, hr, fun t ht => (hd t ht).kept hk (fun k hk' => hn k (hb t ht k hk').1), hb, hok, fun k hk' => Nat.lt_of_lt_of_le (hl k hk') hk.size⟩
  rcases ho.2 with h1 | ⟨g, cap, cur, rfl, hbg, hg, rest⟩
  · exact .inl h1
  · have := hr g rfl
    exact .inr ⟨g, cap, cur, rfl, hbg, by rw [hk.block g (hl g this) (hn g this)]; exact hg, rest⟩
theorem Recs.below {F : Nat → Prop} {w w' : World} {v : Value} {ts : List Rp} (h : Recs F w v ts) (hb : Below w.heap.size w w') : Recs F w' v ts :=
  h.kept (kept_of_below hb) (fun k hk hle => by have := h.lt k hk; omega)
theorem Recs.push {F : Nat → Prop} {w w1 : World} {v v1 : Value} {ts : List Rp} {t : Rp} (h : Recs F w v ts) (hown : w1.ownsRow 0 92 4 v1 (ts.length + 1) (ts.flatMap rcl ++ rcl t)) (hg : w.grownBy w1 v.ownBlock)
    (hat : v1.ownBlock = v.ownBlock ∨ v1.ownBlock = some w.heap.size) (hr : Rd w (dv t) t.1.data) (hok : t.1.ok) (hd : ∀ k, (dv t).ownBlock = some k → k < w.heap.size ∧ v.ownBlock ≠ some k) :
    Recs (fun k => k < w1.heap.size ∧ (F k ∨ (dv t).ownBlock = some k ∨ k = w.heap.size)) w1 v1 (ts ++ [t]) := by
  have hs := hg.size
  have k1 : Kept (fun k => v.ownBlock = some k) w w1 := Kept.grown hg (fun k hk => hk)
  have hne : ∀ k, k < w.heap.size → v.ownBlock ≠ some k → v1.ownBlock ≠ some k := by
    intro k hk hn e
    rcases hat with a | a
    · exact hn (a ▸ e)
    · rw [a] at e; simp at e; omega
  refine ⟨?_, ?_, ?_, ?_, ?_, fun k hk => hk.1⟩
  · rw [List.flatMap_append, List.length_append]
    simpa using hown
  · intro k hk
    refine ⟨(hown.lt k hk).2, ?_⟩
    rcases hat with a | a
    · exact .inl (h.row k (a ▸ hk))
    · rw [a] at hk; simp at hk; exact .inr (.inr hk.symm)
  · intro t' ht'
    rcases List.mem_append.mp ht' with m | m
    · exact (h.rd t' m).kept k1 (fun k hk => (h.blk t' m k hk).2)
    · simp at m; subst m
      exact hr.kept k1 (fun k hk => (hd k hk).2)
  · intro t' ht' k hk
    rcases List.mem_append.mp ht' with m | m
    · obtain ⟨a, b⟩ := h.blk t' m k hk
      have := h.lt k a
      exact ⟨⟨by omega, .inl a⟩, hne k this b⟩
    · simp at m; subst m
      obtain ⟨a, b⟩ := hd k hk
      exact ⟨⟨by omega, .inr (.inl hk)⟩, hne k a b⟩
  · intro t' ht'
    rcases List.mem_append.mp ht' with m | m
    · exact h.ok t' m
    · simp at m; subst m; exact hok
theorem Recs.shape {F : Nat → Prop} {w : World} {v : Value} {ts : List Rp} (h : Recs F w v ts) : ∃ a c, v = .slice a ts.length c := own_shape h.own
theorem Recs.last {F : Nat → Prop} {w : World} {v : Value} {ts : List Rp} {t : Rp} (h : Recs F w v (ts ++ [t])) : ∃ g cap, v = .slice (some ⟨g, 0, none⟩) (ts.length + 1) cap ∧ w.cell? ⟨g, 0 + ts.length * 4, none⟩ = some (.int .i64 (t.1.gen : Int)) ∧ w.cell? ⟨g, 0 + ts.length * 4 + 1, none⟩ = some (.int .i64 (t.1.epoch : Int)) ∧ w.cell? ⟨g, 0 + ts.length * 4 + 2, none⟩ = some (.int .i64 (t.1.index : Int)) ∧ w.cell? ⟨g, 0 + ts.length * 4 + 3, none⟩ = some (dv t) := by
  have ho := h.own
  rcases ho.2 with ⟨_, h0⟩ | ⟨g, cap, cur, rfl, _⟩
  · simp at h0
  · have hc := ho.cells (g := g) rfl
    have hx : (ts ++ [t])[ts.length]? = some t := by simp
    have e : ∀ r u, r < 4 → (rcl t)[r]? = some u → w.cell? ⟨g, 0 + (ts.length * 4 + r), none⟩ = some u := by
      intro r u hr hu
      have := hc (ts.length * 4 + r) u (by rw [fl_get rcl 4 (fun _ => rfl) _ _ r t hx hr]; exact hu)
      rwa [add_none] at this
    exact ⟨g, cap, by simp, e 0 _ (by omega) rfl, by have := e 1 _ (by omega) rfl; simpa [Nat.add_assoc] using this, by have := e 2 _ (by omega) rfl; simpa [Nat.add_assoc] using this, by have := e 3 _ (by omega) rfl; simpa [Nat.add_assoc] using this⟩
theorem goes_any {F : Nat → Prop} (w : World) (x y z v d : Value) (ts : List Rp) (r : Rc) (h : Recs F w v ts) (hl : (ts.length : Int) ≤ 1000000000000) :
    Calls Tryd.prog 69 #[.agg #[x, y, v, z], .agg #[.int .i64 (r.gen : Int), .int .i64 (r.epoch : Int), .int .i64 (r.index : Int), d]] w fun e w' => e = .returned (.bool (goesOn (ts.map (·.1)) r)) ∧ Below w.heap.size w w' := by
  rcases List.eq_nil_or_concat ts with rfl | ⟨ts, t, rfl⟩
  · obtain ⟨a, c, rfl⟩ := h.shape
    refine (goes_nil w x y z d a c r.gen r.epoch r.index).mono ?_
    rintro e w' ⟨rfl, hb⟩
    exact ⟨by simp [goesOn], hb⟩
  · rw [List.concat_eq_append] at *
    obtain ⟨g, cap, rfl, h0, h1, h2, h3⟩ := h.last
    have hi := (h.ok t (by simp)).i
    refine (goes_some w x y z d r.gen r.epoch r.index t.1.gen t.1.epoch t.1.index _ _ _ g 0 ts.length cap (by simp at hl; omega) (by omega) h0 h1 h2 h3).mono ?_
    rintro e w' ⟨rfl, hb⟩
    exact ⟨by simp [goesOn], hb⟩
theorem src_rec (w : World) (t : Rp) : Src Tryd.prog 4 67 (.slice (some ⟨w.heap.size, 0, none⟩) 1 1) 1 (rcl t) (w.alloc (.cells #[.int .i64 (t.1.gen : Int), .int .i64 (t.1.epoch : Int), .int .i64 (t.1.index : Int), dv t] 92)) := by
  refine Src.ofSlice _ Tryd.underlying67 _ 1 1 _ rfl (fun j u hj => ?_) (fun u hu => by simp [rcl, dv] at hu; rcases hu with rfl | rfl | rfl | rfl <;> rfl)
  have hn := heap_alloc_new w (.cells #[.int .i64 (t.1.gen : Int), .int .i64 (t.1.epoch : Int), .int .i64 (t.1.index : Int), dv t] 92)
  rw [add_none]
  match j, hj with
  | 0, hj => simp [rcl] at hj; subst hj; exact cell_of_block hn rfl
  | 1, hj => simp [rcl] at hj; subst hj; exact cell_of_block hn rfl
  | 2, hj => simp [rcl] at hj; subst hj; exact cell_of_block hn rfl
  | 3, hj => simp [rcl] at hj; subst hj; exact cell_of_block hn rfl
  | j + 4, hj => simp [rcl] at hj
/-- What stands is a record, and takes sectors that are there. -/
theorem stand_fits {g : Int → List Int} (hg : ∀ i, (g i).length = 64) {p : Int} {n m : Nat} {r : Rc} (h : stand g p n = some (r, m)) : r.ok ∧ 1 ≤ m ∧ m ≤ n := by
  unfold stand at h
  split at h
  · rename_i hk
    obtain ⟨k1, k2, _⟩ := kind_one hk
    have hl := rests_len g hg n p
    cases hr : recOf (pay (rests g p n)) with
    | none => rw [hr] at h; simp at h
    | some s =>
      rw [hr] at h
      simp at h
      obtain ⟨rfl, rfl⟩ := h
      refine ⟨(recOf_is hr).2, ?_, ?_⟩ <;> unfold npc <;> omega
  · simp at h
theorem areaGo_more {g : Int → List Int} {k : Nat} {rs : List Rc} {p : Int} {n m : Nat} {r : Rc} (h : stand g p n = some (r, m)) (hc : goesOn rs r = true) : areaGo g (k + 1) rs p n = areaGo g k (rs ++ [r]) (p + (m : Int)) (n - m) := by
  rw [areaGo, h]; simp [hc]
theorem areaGo_end {g : Int → List Int} {k : Nat} {rs : List Rc} {p : Int} {n : Nat} (h : stand g p n = none) : areaGo g (k + 1) rs p n = (rs, p) := by
  rw [areaGo, h]
theorem areaGo_stop {g : Int → List Int} {k : Nat} {rs : List Rc} {p : Int} {n m : Nat} {r : Rc} (h : stand g p n = some (r, m)) (hc : goesOn rs r = false) : areaGo g (k + 1) rs p n = (rs, p) := by
  rw [areaGo, h]; simp [hc]
end Go.Proofs.YtcbimclgodkflaaDoor
