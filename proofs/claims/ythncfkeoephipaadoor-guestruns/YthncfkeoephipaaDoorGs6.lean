/- Release. -/
import Derived.Test.YthncfkeoephipaaDoorGs5b
namespace Go.Proofs.YthncfkeoephipaaDoor
open Go.ChangeShapes Go.WideShapes Go.ChangeAt Go.RowKit
attribute [local go_sem] World.cell?_alloc_some frozen_alloc_some

/-- A job is put behind the others. -/
theorem GB.pushJ {base : Nat} {w w1 : World} {b : Nat} {p : Int} {tv jv v1 : Value} {s : Gt} {x : Jb} (h : GB base w b p tv jv s) (hown : w1.ownsRow base 45 5 v1 (s.js.length + 1) (s.js.flatMap cj ++ cj x)) (hg : w.grownBy w1 jv.ownBlock) (hat : v1.ownBlock = jv.ownBlock ∨ v1.ownBlock = some w.heap.size) :
    GB base (w1.setCell ⟨b, 1, none⟩ v1) b p tv v1 ⟨s.xs, s.js ++ [x]⟩ := by
  have hk := Kept.grown hg (F := fun k => jv.ownBlock = some k) (fun k hk => hk)
  have hk1 := Kept.setCell (F := fun k => k = b) w1 (p := ⟨b, 1, none⟩) rfl v1
  have hv : ∀ k, v1.ownBlock = some k → jv.ownBlock = some k ∨ k = w.heap.size := fun k e => by
    rcases hat with a | a
    · exact .inl (a ▸ e)
    · rw [a] at e; simp at e; exact .inr e.symm
  have hpg : v1.ownBlock ≠ some b := fun e => by
    rcases hv b e with a | a
    · exact h.jb a
    · have := h.lt; omega
  refine ⟨heap_set ((hk.block b h.lt h.jb).trans h.blk), ?_, ?_, h.bb, h.tb, hpg, fun k e e2 => ?_⟩
  · exact ownN_kept (ownN_kept h.town hk (fun k e e2 => h.tj k e e2)) hk1 (fun k e e2 => h.tb (by rw [← e2]; exact e))
  · rw [List.flatMap_append, List.length_append]
    refine ownN_kept ?_ hk1 (fun k e e2 => hpg (by rw [← e2]; exact e))
    simpa using hown
  · rcases hv k e2 with a | a
    · exact h.tj k e a
    · have := (h.town.lt k e).2; omega
/-- A task is told when it may be released again. -/
theorem GB.setAg {base : Nat} {w : World} {b : Nat} {p : Int} {jv : Value} {s : Gt} {g c i n : Nat} {x : Tq} (h : GB base w b p (.slice (some ⟨g, 0, none⟩) n c) jv s) (hn : n = s.xs.length) (hx : s.xs[i]? = some x) (v : Int) : GB base (w.setCell ⟨g, i * 5 + 4, none⟩ (.int .i64 v)) b p (.slice (some ⟨g, 0, none⟩) n c) jv ⟨s.xs.set i (x.1, v), s.js⟩ := by
  subst hn
  have hk1 := Kept.setCell (F := fun k => k = g) w (p := ⟨g, i * 5 + 4, none⟩) rfl (.int .i64 v)
  have a0 := own_put h.town (i * 5 + 4) (.int .i64 v)
  rw [fl_set cq 5 cq_len s.xs i 4 x (x.1, v) _ hx (by omega) rfl] at a0
  refine ⟨(hk1.block b h.lt (fun e => h.tb (by simp [Value.ownBlock, e]))).trans h.blk, ?_, ownN_kept h.jown hk1 (fun k e e2 => h.tj k (by simp [Value.ownBlock, e2]) e), h.bb, h.tb, h.jb, h.tj⟩
  simpa using a0
/-- The errors that a guest answers lie as laid. -/
structure Eg (w : World) (a : Nat → Addr) : Prop where
  num : w.cell? ⟨1, 0, none⟩ = some (vE (a 1))
  busy : w.cell? ⟨2, 0, none⟩ = some (vE (a 2))
  full : w.cell? ⟨3, 0, none⟩ = some (vE (a 3))
  task : w.cell? ⟨0, 0, none⟩ = some (vE (a 0))
theorem Eg.late {w w' : World} {a : Nat → Addr} (h : Eg w a) (hb : Below w.heap.size w w') : Eg w' a := ⟨kc h.1 hb, kc h.2 hb, kc h.3 hb, kc h.4 hb⟩
/-- And that of a run. -/
structure Es (w : World) (a : Nat → Addr) : Prop where
  eg : Eg w a
  state : w.cell? ⟨15, 0, none⟩ = some (vE (a 15))
theorem Es.late {w w' : World} {a : Nat → Addr} (h : Es w a) (hb : Below w.heap.size w w') : Es w' a := ⟨h.1.late hb, kc h.2 hb⟩
/-- The error of a number. -/
def eg (a : Nat → Addr) (n : Int) : Value := if n = 1 then vE (a 1) else if n = 14 then vE (a 2) else if n = 7 then vE (a 3) else .nilIface
theorem GC.same {base : Nat} {w : World} {b : Nat} {p : Int} {tv jv : Value} {s : Gt} (h : GB base w b p tv jv s) : GC base w b p tv jv s w := GC.mk h (Kept.refl _ _) (fun _ e => .inl e)
set_option maxHeartbeats 1600000 in
theorem rel_num (base : Nat) (w : World) (b : Nat) (p : Int) (tv jv : Value) (s : Gt) (k now ticks : Int) (a : Addr) (h : GB base w b p tv jv s) (he : w.cell? ⟨1, 0, none⟩ = some (vE a)) (hc : k < 0 ∨ (0 ≤ k ∧ (s.xs.length : Int) ≤ k) ∨ (0 ≤ k ∧ k < s.xs.length ∧ now < 0) ∨ (0 ≤ k ∧ k < s.xs.length ∧ 0 ≤ now ∧ 1099511627776 < now)) : Calls Tryd.prog 13 #[.pointer (some ⟨b, 0, none⟩), .int .i64 k, .int .i64 now, .int .i64 ticks] w fun e w' => e = .returned (vE a) ∧ w' = w := by
  have c0 := h.c0
  obtain ⟨t, c, rfl, hcap⟩ := own_sh h.town
  clear h
  rcases hc with h1 | ⟨h1, h2⟩ | ⟨h1, h2, h3⟩ | ⟨h1, h2, h3, h4⟩
  all_goals
    go_enter Tryd.func13, Tryd.ntmps13
    go_wp2
    go_ret
    exact ⟨rfl, rfl⟩
set_option maxHeartbeats 1600000 in
theorem rel_busy (base : Nat) (w : World) (b : Nat) (p : Int) (tv jv : Value) (s : Gt) (i : Nat) (x : Tq) (now ticks : Int) (a : Addr) (h : GB base w b p tv jv s) (he : w.cell? ⟨2, 0, none⟩ = some (vE a)) (hx : s.xs[i]? = some x) (n0 : 0 ≤ now) (n1 : now ≤ 1099511627776) (hb : now < x.2) : Calls Tryd.prog 13 #[.pointer (some ⟨b, 0, none⟩), .int .i64 (i : Int), .int .i64 now, .int .i64 ticks] w fun e w' => e = .returned (vE a) ∧ w' = w := by
  have c0 := h.c0
  have hi := (List.getElem?_eq_some_iff.mp hx).1
  have hii : (i : Int) < s.xs.length := by omega
  obtain ⟨g, c, rfl, q⟩ := own_task h.town hx
  have q4 := q.c4
  clear h q hx
  go_enter Tryd.func13, Tryd.ntmps13
  go_wp2
  go_ret
  exact ⟨rfl, rfl⟩
set_option maxHeartbeats 1600000 in
theorem rel_full (base : Nat) (w : World) (b : Nat) (p : Int) (tv jv : Value) (s : Gt) (i : Nat) (x : Tq) (now ticks : Int) (a : Addr) (h : GB base w b p tv jv s) (he : w.cell? ⟨3, 0, none⟩ = some (vE a)) (hx : s.xs[i]? = some x) (n0 : 0 ≤ now) (n1 : now ≤ 1099511627776) (hb : x.2 ≤ now) (hf : 64 ≤ s.js.length) : Calls Tryd.prog 13 #[.pointer (some ⟨b, 0, none⟩), .int .i64 (i : Int), .int .i64 now, .int .i64 ticks] w fun e w' => e = .returned (vE a) ∧ w' = w := by
  have c0 := h.c0
  have c1 := h.c1
  have hi := (List.getElem?_eq_some_iff.mp hx).1
  have hii : (i : Int) < s.xs.length := by omega
  obtain ⟨g, c, rfl, q⟩ := own_task h.town hx
  obtain ⟨ja, jc, rfl, _⟩ := own_sh h.jown
  have q4 := q.c4
  have hb2 : decide (now < x.2) = false := decide_eq_false (by omega)
  have hfi : (64 : Int) ≤ s.js.length := by omega
  clear h q hx
  go_enter Tryd.func13, Tryd.ntmps13
  go_wp2
  go_ret
  exact ⟨rfl, rfl⟩
set_option maxHeartbeats 12800000 in
theorem rel_ok (base : Nat) (w : World) (b : Nat) (p : Int) (tv jv : Value) (s : Gt) (i : Nat) (x : Tq) (now ticks : Int) (h : GB base w b p tv jv s) (hok : okT x.1) (hx : s.xs[i]? = some x) (n0 : 0 ≤ now) (n1 : now ≤ 1099511627776) (hb : x.2 ≤ now) (hf : s.js.length < 64) : Calls Tryd.prog 13 #[.pointer (some ⟨b, 0, none⟩), .int .i64 (i : Int), .int .i64 now, .int .i64 ticks] w fun e w' => e = .returned .nilIface ∧ GC base w b p tv jv (s.put i x now ticks) w' := by
  obtain ⟨ie, hie1, hz0, hz1, hz2⟩ := info_parts info_job
  have hie := mkHid (And.intro hie1 (And.intro hz0 (And.intro hz1 hz2)))
  clear hie1 hz0 hz1 hz2
  have c0 := h.c0
  have c1 := h.c1
  have hi := (List.getElem?_eq_some_iff.mp hx).1
  have hii : (i : Int) < s.xs.length := by omega
  obtain ⟨g, c, rfl, q⟩ := own_task h.town hx
  obtain ⟨ja, jc, rfl, _⟩ := own_sh h.jown
  obtain ⟨q0, q1, q2, q3, q4, qf⟩ := q
  have HG := mkHid h
  have HX := mkHid hx
  obtain ⟨k1, k2, k3, k4, k5, k6⟩ := hok
  obtain ⟨⟨xc, xp, xd, xs⟩, xa⟩ := x
  simp only at q0 q1 q2 q3 q4 k1 k2 k3 k4 k5 k6 hb
  have hb2 : decide (now < xa) = false := decide_eq_false (by omega)
  have hfi : ¬ (64 : Int) ≤ s.js.length := by omega
  have hfd : decide ((64 : Int) ≤ s.js.length) = false := decide_eq_false hfi
  have eD : IntKind.i64.wrap (now + xd) = now + xd := wfit (by omega) (by omega)
  have eP : IntKind.i64.wrap (now + xp) = now + xp := wfit (by omega) (by omega)
  obtain ⟨L, hL⟩ : ∃ L, L = min (max ticks 1) xc := ⟨_, rfl⟩
  have HL := mkHid hL
  clear h qf hx hb
  have hcase : (ticks < 1 ∧ L = 1) ∨ (1 ≤ ticks ∧ ticks ≤ xc ∧ L = ticks) ∨ (1 ≤ ticks ∧ xc < ticks ∧ L = xc) := by omega
  clear hL
  have hxc : ¬ xc < 1 := by omega
  rcases hcase with ⟨t1, e⟩ | ⟨t1, t2, e⟩ | ⟨t1, t2, e⟩ <;> subst e
  · go_enter Tryd.func13, Tryd.ntmps13
    go_wp2
    have HE : Hid (newJ (xc, xp, xd, xs) i now ticks = ⟨i, now, now + xd, 1, 0⟩) := mkHid (by unfold newJ; rw [← HL.out])
    have hT : w.drew.cell? ⟨b, 1, none⟩ = some (.slice ja s.js.length jc) ∧ w.drew.cell? ⟨g, i * 5 + 2, none⟩ = some (.int .i64 xd) := ⟨c1, q2⟩
    refine wp_region_till (fun w' => w'.cell? ⟨b, 1, none⟩ = some (.slice ja s.js.length jc) ∧ w'.cell? ⟨g, i * 5 + 2, none⟩ = some (.int .i64 xd)) 20 (by kernel_rfl) ?_
    refine freeD 0 59 (.pointer (some ⟨b, 0, none⟩)) rfl rfl (by kernel_rfl) (by kernel_rfl) (by kernel_rfl) (by decide) (fun _ _ _ h => h) (fun _ => hT) (Or.inl ⟨by kernel_rfl, by intro w _; go_simp⟩) ?_
    simp only [List.set_cons_zero, List.set_cons_succ]
    refine freeD 1 60 (.pointer (some ⟨b, 0, none⟩)) rfl rfl (by kernel_rfl) (by kernel_rfl) (by kernel_rfl) (by decide) (fun _ _ _ h => h) (fun _ => hT) (Or.inl ⟨by kernel_rfl, by intro w _; go_simp⟩) ?_
    simp only [List.set_cons_zero, List.set_cons_succ]
    refine freeD 2 61 (.pointer (some ⟨b, 0, none⟩)) rfl rfl (by kernel_rfl) (by kernel_rfl) (by kernel_rfl) (by decide) (fun _ _ _ h => h) (fun _ => hT) (Or.inl ⟨by kernel_rfl, by intro w _; go_simp⟩) ?_
    simp only [List.set_cons_zero, List.set_cons_succ]
    refine freeD 3 62 (.pointer (some ⟨b, 1, none⟩)) rfl rfl (by kernel_rfl) (by kernel_rfl) (by kernel_rfl) (by decide) (fun _ _ _ h => h) (fun _ => hT) (Or.inl ⟨by kernel_rfl, by intro w _; go_simp⟩) ?_
    simp only [List.set_cons_zero, List.set_cons_succ]
    refine firstD 4 63 (.slice ja s.js.length jc) rfl rfl (by kernel_rfl) (by kernel_rfl) (by kernel_rfl) (by kernel_rfl) (by decide) (by kernel_rfl) (fun _ _ _ h => h) (Or.inl ⟨by kernel_rfl, by intro w hSw; (try dsimp only at hSw); go_simp⟩) hT ?_
    simp only [List.set_cons_zero, List.set_cons_succ]
    refine freeD 5 64 (.int .i64 (i : Int)) rfl rfl (by kernel_rfl) (by kernel_rfl) (by kernel_rfl) (by decide) (fun _ _ _ h => h) (fun _ => hT) (Or.inl ⟨by kernel_rfl, by intro w _; go_simp⟩) ?_
    simp only [List.set_cons_zero, List.set_cons_succ]
    refine freeD 6 65 (.int .i64 now) rfl rfl (by kernel_rfl) (by kernel_rfl) (by kernel_rfl) (by decide) (fun _ _ _ h => h) (fun _ => hT) (Or.inl ⟨by kernel_rfl, by intro w _; go_simp⟩) ?_
    simp only [List.set_cons_zero, List.set_cons_succ]
    refine freeD 7 66 (.int .i64 now) rfl rfl (by kernel_rfl) (by kernel_rfl) (by kernel_rfl) (by decide) (fun _ _ _ h => h) (fun _ => hT) (Or.inl ⟨by kernel_rfl, by intro w _; go_simp⟩) ?_
    simp only [List.set_cons_zero, List.set_cons_succ]
    refine freeD 8 67 (.pointer (some ⟨g, i * 5, none⟩)) rfl rfl (by kernel_rfl) (by kernel_rfl) (by kernel_rfl) (by decide) (fun _ _ _ h => h) (fun _ => hT) (Or.inl ⟨by kernel_rfl, by intro w _; go_simp⟩) ?_
    simp only [List.set_cons_zero, List.set_cons_succ]
    refine freeD 9 68 (.pointer (some ⟨g, i * 5, none⟩)) rfl rfl (by kernel_rfl) (by kernel_rfl) (by kernel_rfl) (by decide) (fun _ _ _ h => h) (fun _ => hT) (Or.inl ⟨by kernel_rfl, by intro w _; go_simp⟩) ?_
    simp only [List.set_cons_zero, List.set_cons_succ]
    refine freeD 10 69 (.pointer (some ⟨g, i * 5, none⟩)) rfl rfl (by kernel_rfl) (by kernel_rfl) (by kernel_rfl) (by decide) (fun _ _ _ h => h) (fun _ => hT) (Or.inl ⟨by kernel_rfl, by intro w _; go_simp⟩) ?_
    simp only [List.set_cons_zero, List.set_cons_succ]
    refine freeD 11 70 (.pointer (some ⟨g, i * 5 + 2, none⟩)) rfl rfl (by kernel_rfl) (by kernel_rfl) (by kernel_rfl) (by decide) (fun _ _ _ h => h) (fun _ => hT) (Or.inl ⟨by kernel_rfl, by intro w _; go_simp⟩) ?_
    simp only [List.set_cons_zero, List.set_cons_succ]
    refine firstD 12 71 (.int .i64 xd) rfl rfl (by kernel_rfl) (by kernel_rfl) (by kernel_rfl) (by kernel_rfl) (by decide) (by kernel_rfl) (fun _ _ _ h => h) (Or.inl ⟨by kernel_rfl, by intro w hSw; (try dsimp only at hSw); go_simp⟩) hT ?_
    simp only [List.set_cons_zero, List.set_cons_succ]
    refine freeD 13 72 (.int .i64 (now + xd)) rfl rfl (by kernel_rfl) (by kernel_rfl) (by kernel_rfl) (by decide) (fun _ _ _ h => h) (fun _ => hT) (Or.inl ⟨by kernel_rfl, by intro w _; go_simp⟩) ?_
    simp only [List.set_cons_zero, List.set_cons_succ]
    refine freeD 14 73 (.int .i64 1) rfl rfl (by kernel_rfl) (by kernel_rfl) (by kernel_rfl) (by decide) (fun _ _ _ h => h) (fun _ => hT) (Or.inl ⟨by kernel_rfl, by intro w _; go_simp⟩) ?_
    simp only [List.set_cons_zero, List.set_cons_succ]
    refine freeD 15 74 (.agg #[.int .i64 (i : Int), .int .i64 now, .int .i64 (now + xd), .int .i64 1, .int .i64 0]) rfl rfl (by kernel_rfl) (by kernel_rfl) (by kernel_rfl) (by decide) (fun _ _ _ h => h) (fun _ => hT) (Or.inl ⟨by kernel_rfl, by intro w _; go_simp⟩) ?_
    simp only [List.set_cons_zero, List.set_cons_succ]
    refine wpT_ready (rs := [16]) (by kernel_rfl) (by simp) (AllT.cons rfl (fun K hK => ?_) AllT.nil)
    go_simp
    obtain ⟨W4, hW4⟩ : ∃ W4, W4 = (w.alloc (.cells #[.int .i64 (i : Int), .int .i64 now, .int .i64 (now + xd), .int .i64 1, .int .i64 0] 45)).drew := ⟨_, rfl⟩
    have b4 : Below w.heap.size w W4 := by rw [hW4]; exact (ba (Below.refl _ _) _).drew
    have HR4 : Hid (RowIn 5 cj W4 (.slice (some ⟨w.heap.size, 0, none⟩) 1 1) [(⟨i, now, now + xd, 1, 0⟩ : Jb)]) := mkHid (by
      rw [hW4]
      exact RowIn.below (rowOne (f := cj) (⟨i, now, now + xd, 1, 0⟩ : Jb) w 45) (Below.refl _ _).drew)
    have HP4 := mkHid (HG.out.below b4)
    have HB4 := mkHid b4
    have HKB : Hid (Kept (Ft (.slice (some ⟨g, 0, none⟩) s.xs.length c) (.slice ja s.js.length jc) b) w W4) := mkHid (kept_new b4)
    rw [← hW4]
    clear hW4 b4 hT
    have d1 := HP4.out.c1
    have d2 := kc q2 HB4.out
    refine hK.out _ _ (fun _ => ⟨d1, d2⟩) ?_
    clear hK K
    (try simp only [Act.put])
    generalize w.heap.size = z3 at *
    refine wpT_ready (rs := [17]) (by kernel_rfl) (by simp) (AllT.cons rfl (fun K hK => ?_) AllT.nil)
    refine step_append_src5 (w := W4) rfl (.tmp 63) (.tmp 75) 54 54 rfl base 45 ie Tryd.underlying54 hie.out.1 (.agg #[.int .i64 0, .int .i64 0, .int .i64 0, .int .i64 0, .int .i64 0]) 40 hie.out.2.1 rfl hie.out.2.2.1 hie.out.2.2.2 (.slice ja s.js.length jc) s.js.length (s.js.flatMap cj) (by simp [Act.eval]) HP4.out.jown _ 1 (cj ⟨i, now, now + xd, 1, 0⟩) (by simp [Act.eval]) (srcOne (f := cj) (x := (⟨i, now, now + xd, 1, 0⟩ : Jb)) Tryd.underlying54 (by omega) cj_len onej HR4.out) (by unfold maxLen; omega) (by omega) HP4.out.base_le ?_
    intro v6 w6 ho6 hg6 hat6
    have HPN := mkHid (HP4.out.pushJ (x := ⟨i, now, now + xd, 1, 0⟩) ho6 hg6 hat6)
    have hk6 := Kept.grown hg6 (F := fun k => (Value.slice ja s.js.length jc).ownBlock = some k) (fun k hk => hk)
    obtain ⟨na6, nc6, hv6, _⟩ := own_sh ho6
    subst hv6
    have hpb := (hk6.block b HP4.out.lt HP4.out.jb).trans HP4.out.blk
    have e1 : w6.cell? ⟨b, 1, none⟩ = some (.slice ja s.js.length jc) := cell_of_block hpb rfl
    have g1 : w6.frozen? ⟨b, 1, none⟩ = false := frozen_of_block hpb
    have e2 := hk6.cell d2 (fun e => HP4.out.tj g rfl e)
    have HK6 := mkHid hk6
    have HA6 : Hid (∀ k, (Value.slice na6 (s.js.length + 1) nc6).ownBlock = some k → (Value.slice ja s.js.length jc).ownBlock = some k ∨ k = W4.heap.size) := mkHid (fun k e => by
      rcases hat6 with a | a
      · exact .inl (a ▸ e)
      · rw [a] at e; simp at e; exact .inr e.symm)
    clear ho6 hg6 hat6 hk6 hpb
    refine hK.out _ _ (fun _ => ⟨e1, e2⟩) ?_
    clear hK K
    (try simp only [Act.put])
    refine freeD 18 77 (.pointer (some ⟨b, 0, none⟩)) rfl rfl (by kernel_rfl) (by kernel_rfl) (by kernel_rfl) (by decide) (fun _ _ _ h => h) (fun _ => ⟨e1, e2⟩) (Or.inl ⟨by kernel_rfl, by intro w _; go_simp⟩) ?_
    simp only [List.set_cons_zero, List.set_cons_succ]
    refine freeD 19 78 (.pointer (some ⟨b, 1, none⟩)) rfl rfl (by kernel_rfl) (by kernel_rfl) (by kernel_rfl) (by decide) (fun _ _ _ h => h) (fun _ => ⟨e1, e2⟩) (Or.inl ⟨by kernel_rfl, by intro w _; go_simp⟩) ?_
    simp only [List.set_cons_zero, List.set_cons_succ]
    refine wpT_ready (rs := [20]) (by kernel_rfl) (by simp) (AllT.cons rfl (fun K hK => ?_) AllT.nil)
    go_simp
    refine hK.out _ _ (bool_no (by kernel_rfl)) ?_
    clear hK K e1 e2 g1
    refine wpT_done (by kernel_rfl) ?_ _
    have HK7 : Hid (Kept (fun k => k = b) w6 (w6.setCell ⟨b, 1, none⟩ (.slice na6 (s.js.length + 1) nc6))) := mkHid (Kept.setCell (F := fun k => k = b) w6 (p := ⟨b, 1, none⟩) rfl (.slice na6 (s.js.length + 1) nc6))
    generalize w6.setCell ⟨b, 1, none⟩ (.slice na6 (s.js.length + 1) nc6) = W7 at *
    clear c0 c1 q0 q1 q2 q3 q4 d1 d2
    have c0 := HPN.out.c0
    obtain ⟨g', c', eg, q⟩ := own_task HPN.out.town HX.out
    simp only [Value.slice.injEq, Option.some.injEq, Addr.mk.injEq] at eg
    obtain ⟨⟨rfl, _⟩, _, rfl⟩ := eg
    obtain ⟨q0, q1, q2, q3, q4, qf⟩ := q
    simp only at q0 q1 q2 q3 q4
    have f4 := qf (i * 5 + 4)
    clear qf
    go_wp2
    go_ret
    refine ⟨rfl, ?_⟩
    have hE : s.put i ((xc, xp, xd, xs), xa) now ticks = ⟨s.xs.set i ((xc, xp, xd, xs), now + xp), s.js ++ [⟨i, now, now + xd, 1, 0⟩]⟩ := by
      unfold Gt.put
      rw [HE.out]
    rw [hE]
    refine GC.mk (HPN.out.setAg rfl HX.out (now + xp)) ?_ (fun k e => ?_)
    · refine ((HKB.out.trans HK6.out (fun k e => .inl (.inr (.inr e)))).trans HK7.out (fun k e => .inl (.inl e))).trans (Kept.setCell (F := fun k => k = g) W7 (p := ⟨g, i * 5 + 4, none⟩) rfl (.int .i64 (now + xp))) (fun k e => .inl (.inr (.inl (by simp [Value.ownBlock, e]))))
    · rcases HA6.out k e with a | a
      · exact .inl a
      · exact .inr (by rw [a]; exact HB4.out.size)
  · go_enter Tryd.func13, Tryd.ntmps13
    go_wp2
    have HE : Hid (newJ (xc, xp, xd, xs) i now L = ⟨i, now, now + xd, L, 0⟩) := mkHid (by unfold newJ; rw [← HL.out])
    have hT : w.drew.cell? ⟨b, 1, none⟩ = some (.slice ja s.js.length jc) ∧ w.drew.cell? ⟨g, i * 5 + 2, none⟩ = some (.int .i64 xd) := ⟨c1, q2⟩
    refine wp_region_till (fun w' => w'.cell? ⟨b, 1, none⟩ = some (.slice ja s.js.length jc) ∧ w'.cell? ⟨g, i * 5 + 2, none⟩ = some (.int .i64 xd)) 20 (by kernel_rfl) ?_
    refine freeD 0 59 (.pointer (some ⟨b, 0, none⟩)) rfl rfl (by kernel_rfl) (by kernel_rfl) (by kernel_rfl) (by decide) (fun _ _ _ h => h) (fun _ => hT) (Or.inl ⟨by kernel_rfl, by intro w _; go_simp⟩) ?_
    simp only [List.set_cons_zero, List.set_cons_succ]
    refine freeD 1 60 (.pointer (some ⟨b, 0, none⟩)) rfl rfl (by kernel_rfl) (by kernel_rfl) (by kernel_rfl) (by decide) (fun _ _ _ h => h) (fun _ => hT) (Or.inl ⟨by kernel_rfl, by intro w _; go_simp⟩) ?_
    simp only [List.set_cons_zero, List.set_cons_succ]
    refine freeD 2 61 (.pointer (some ⟨b, 0, none⟩)) rfl rfl (by kernel_rfl) (by kernel_rfl) (by kernel_rfl) (by decide) (fun _ _ _ h => h) (fun _ => hT) (Or.inl ⟨by kernel_rfl, by intro w _; go_simp⟩) ?_
    simp only [List.set_cons_zero, List.set_cons_succ]
    refine freeD 3 62 (.pointer (some ⟨b, 1, none⟩)) rfl rfl (by kernel_rfl) (by kernel_rfl) (by kernel_rfl) (by decide) (fun _ _ _ h => h) (fun _ => hT) (Or.inl ⟨by kernel_rfl, by intro w _; go_simp⟩) ?_
    simp only [List.set_cons_zero, List.set_cons_succ]
    refine firstD 4 63 (.slice ja s.js.length jc) rfl rfl (by kernel_rfl) (by kernel_rfl) (by kernel_rfl) (by kernel_rfl) (by decide) (by kernel_rfl) (fun _ _ _ h => h) (Or.inl ⟨by kernel_rfl, by intro w hSw; (try dsimp only at hSw); go_simp⟩) hT ?_
    simp only [List.set_cons_zero, List.set_cons_succ]
    refine freeD 5 64 (.int .i64 (i : Int)) rfl rfl (by kernel_rfl) (by kernel_rfl) (by kernel_rfl) (by decide) (fun _ _ _ h => h) (fun _ => hT) (Or.inl ⟨by kernel_rfl, by intro w _; go_simp⟩) ?_
    simp only [List.set_cons_zero, List.set_cons_succ]
    refine freeD 6 65 (.int .i64 now) rfl rfl (by kernel_rfl) (by kernel_rfl) (by kernel_rfl) (by decide) (fun _ _ _ h => h) (fun _ => hT) (Or.inl ⟨by kernel_rfl, by intro w _; go_simp⟩) ?_
    simp only [List.set_cons_zero, List.set_cons_succ]
    refine freeD 7 66 (.int .i64 now) rfl rfl (by kernel_rfl) (by kernel_rfl) (by kernel_rfl) (by decide) (fun _ _ _ h => h) (fun _ => hT) (Or.inl ⟨by kernel_rfl, by intro w _; go_simp⟩) ?_
    simp only [List.set_cons_zero, List.set_cons_succ]
    refine freeD 8 67 (.pointer (some ⟨g, i * 5, none⟩)) rfl rfl (by kernel_rfl) (by kernel_rfl) (by kernel_rfl) (by decide) (fun _ _ _ h => h) (fun _ => hT) (Or.inl ⟨by kernel_rfl, by intro w _; go_simp⟩) ?_
    simp only [List.set_cons_zero, List.set_cons_succ]
    refine freeD 9 68 (.pointer (some ⟨g, i * 5, none⟩)) rfl rfl (by kernel_rfl) (by kernel_rfl) (by kernel_rfl) (by decide) (fun _ _ _ h => h) (fun _ => hT) (Or.inl ⟨by kernel_rfl, by intro w _; go_simp⟩) ?_
    simp only [List.set_cons_zero, List.set_cons_succ]
    refine freeD 10 69 (.pointer (some ⟨g, i * 5, none⟩)) rfl rfl (by kernel_rfl) (by kernel_rfl) (by kernel_rfl) (by decide) (fun _ _ _ h => h) (fun _ => hT) (Or.inl ⟨by kernel_rfl, by intro w _; go_simp⟩) ?_
    simp only [List.set_cons_zero, List.set_cons_succ]
    refine freeD 11 70 (.pointer (some ⟨g, i * 5 + 2, none⟩)) rfl rfl (by kernel_rfl) (by kernel_rfl) (by kernel_rfl) (by decide) (fun _ _ _ h => h) (fun _ => hT) (Or.inl ⟨by kernel_rfl, by intro w _; go_simp⟩) ?_
    simp only [List.set_cons_zero, List.set_cons_succ]
    refine firstD 12 71 (.int .i64 xd) rfl rfl (by kernel_rfl) (by kernel_rfl) (by kernel_rfl) (by kernel_rfl) (by decide) (by kernel_rfl) (fun _ _ _ h => h) (Or.inl ⟨by kernel_rfl, by intro w hSw; (try dsimp only at hSw); go_simp⟩) hT ?_
    simp only [List.set_cons_zero, List.set_cons_succ]
    refine freeD 13 72 (.int .i64 (now + xd)) rfl rfl (by kernel_rfl) (by kernel_rfl) (by kernel_rfl) (by decide) (fun _ _ _ h => h) (fun _ => hT) (Or.inl ⟨by kernel_rfl, by intro w _; go_simp⟩) ?_
    simp only [List.set_cons_zero, List.set_cons_succ]
    refine freeD 14 73 (.int .i64 L) rfl rfl (by kernel_rfl) (by kernel_rfl) (by kernel_rfl) (by decide) (fun _ _ _ h => h) (fun _ => hT) (Or.inl ⟨by kernel_rfl, by intro w _; go_simp⟩) ?_
    simp only [List.set_cons_zero, List.set_cons_succ]
    refine freeD 15 74 (.agg #[.int .i64 (i : Int), .int .i64 now, .int .i64 (now + xd), .int .i64 L, .int .i64 0]) rfl rfl (by kernel_rfl) (by kernel_rfl) (by kernel_rfl) (by decide) (fun _ _ _ h => h) (fun _ => hT) (Or.inl ⟨by kernel_rfl, by intro w _; go_simp⟩) ?_
    simp only [List.set_cons_zero, List.set_cons_succ]
    refine wpT_ready (rs := [16]) (by kernel_rfl) (by simp) (AllT.cons rfl (fun K hK => ?_) AllT.nil)
    go_simp
    obtain ⟨W4, hW4⟩ : ∃ W4, W4 = (w.alloc (.cells #[.int .i64 (i : Int), .int .i64 now, .int .i64 (now + xd), .int .i64 L, .int .i64 0] 45)).drew := ⟨_, rfl⟩
    have b4 : Below w.heap.size w W4 := by rw [hW4]; exact (ba (Below.refl _ _) _).drew
    have HR4 : Hid (RowIn 5 cj W4 (.slice (some ⟨w.heap.size, 0, none⟩) 1 1) [(⟨i, now, now + xd, L, 0⟩ : Jb)]) := mkHid (by
      rw [hW4]
      exact RowIn.below (rowOne (f := cj) (⟨i, now, now + xd, L, 0⟩ : Jb) w 45) (Below.refl _ _).drew)
    have HP4 := mkHid (HG.out.below b4)
    have HB4 := mkHid b4
    have HKB : Hid (Kept (Ft (.slice (some ⟨g, 0, none⟩) s.xs.length c) (.slice ja s.js.length jc) b) w W4) := mkHid (kept_new b4)
    rw [← hW4]
    clear hW4 b4 hT
    have d1 := HP4.out.c1
    have d2 := kc q2 HB4.out
    refine hK.out _ _ (fun _ => ⟨d1, d2⟩) ?_
    clear hK K
    (try simp only [Act.put])
    generalize w.heap.size = z3 at *
    refine wpT_ready (rs := [17]) (by kernel_rfl) (by simp) (AllT.cons rfl (fun K hK => ?_) AllT.nil)
    refine step_append_src5 (w := W4) rfl (.tmp 63) (.tmp 75) 54 54 rfl base 45 ie Tryd.underlying54 hie.out.1 (.agg #[.int .i64 0, .int .i64 0, .int .i64 0, .int .i64 0, .int .i64 0]) 40 hie.out.2.1 rfl hie.out.2.2.1 hie.out.2.2.2 (.slice ja s.js.length jc) s.js.length (s.js.flatMap cj) (by simp [Act.eval]) HP4.out.jown _ 1 (cj ⟨i, now, now + xd, L, 0⟩) (by simp [Act.eval]) (srcOne (f := cj) (x := (⟨i, now, now + xd, L, 0⟩ : Jb)) Tryd.underlying54 (by omega) cj_len onej HR4.out) (by unfold maxLen; omega) (by omega) HP4.out.base_le ?_
    intro v6 w6 ho6 hg6 hat6
    have HPN := mkHid (HP4.out.pushJ (x := ⟨i, now, now + xd, L, 0⟩) ho6 hg6 hat6)
    have hk6 := Kept.grown hg6 (F := fun k => (Value.slice ja s.js.length jc).ownBlock = some k) (fun k hk => hk)
    obtain ⟨na6, nc6, hv6, _⟩ := own_sh ho6
    subst hv6
    have hpb := (hk6.block b HP4.out.lt HP4.out.jb).trans HP4.out.blk
    have e1 : w6.cell? ⟨b, 1, none⟩ = some (.slice ja s.js.length jc) := cell_of_block hpb rfl
    have g1 : w6.frozen? ⟨b, 1, none⟩ = false := frozen_of_block hpb
    have e2 := hk6.cell d2 (fun e => HP4.out.tj g rfl e)
    have HK6 := mkHid hk6
    have HA6 : Hid (∀ k, (Value.slice na6 (s.js.length + 1) nc6).ownBlock = some k → (Value.slice ja s.js.length jc).ownBlock = some k ∨ k = W4.heap.size) := mkHid (fun k e => by
      rcases hat6 with a | a
      · exact .inl (a ▸ e)
      · rw [a] at e; simp at e; exact .inr e.symm)
    clear ho6 hg6 hat6 hk6 hpb
    refine hK.out _ _ (fun _ => ⟨e1, e2⟩) ?_
    clear hK K
    (try simp only [Act.put])
    refine freeD 18 77 (.pointer (some ⟨b, 0, none⟩)) rfl rfl (by kernel_rfl) (by kernel_rfl) (by kernel_rfl) (by decide) (fun _ _ _ h => h) (fun _ => ⟨e1, e2⟩) (Or.inl ⟨by kernel_rfl, by intro w _; go_simp⟩) ?_
    simp only [List.set_cons_zero, List.set_cons_succ]
    refine freeD 19 78 (.pointer (some ⟨b, 1, none⟩)) rfl rfl (by kernel_rfl) (by kernel_rfl) (by kernel_rfl) (by decide) (fun _ _ _ h => h) (fun _ => ⟨e1, e2⟩) (Or.inl ⟨by kernel_rfl, by intro w _; go_simp⟩) ?_
    simp only [List.set_cons_zero, List.set_cons_succ]
    refine wpT_ready (rs := [20]) (by kernel_rfl) (by simp) (AllT.cons rfl (fun K hK => ?_) AllT.nil)
    go_simp
    refine hK.out _ _ (bool_no (by kernel_rfl)) ?_
    clear hK K e1 e2 g1
    refine wpT_done (by kernel_rfl) ?_ _
    have HK7 : Hid (Kept (fun k => k = b) w6 (w6.setCell ⟨b, 1, none⟩ (.slice na6 (s.js.length + 1) nc6))) := mkHid (Kept.setCell (F := fun k => k = b) w6 (p := ⟨b, 1, none⟩) rfl (.slice na6 (s.js.length + 1) nc6))
    generalize w6.setCell ⟨b, 1, none⟩ (.slice na6 (s.js.length + 1) nc6) = W7 at *
    clear c0 c1 q0 q1 q2 q3 q4 d1 d2
    have c0 := HPN.out.c0
    obtain ⟨g', c', eg, q⟩ := own_task HPN.out.town HX.out
    simp only [Value.slice.injEq, Option.some.injEq, Addr.mk.injEq] at eg
    obtain ⟨⟨rfl, _⟩, _, rfl⟩ := eg
    obtain ⟨q0, q1, q2, q3, q4, qf⟩ := q
    simp only at q0 q1 q2 q3 q4
    have f4 := qf (i * 5 + 4)
    clear qf
    go_wp2
    go_ret
    refine ⟨rfl, ?_⟩
    have hE : s.put i ((xc, xp, xd, xs), xa) now L = ⟨s.xs.set i ((xc, xp, xd, xs), now + xp), s.js ++ [⟨i, now, now + xd, L, 0⟩]⟩ := by
      unfold Gt.put
      rw [HE.out]
    rw [hE]
    refine GC.mk (HPN.out.setAg rfl HX.out (now + xp)) ?_ (fun k e => ?_)
    · refine ((HKB.out.trans HK6.out (fun k e => .inl (.inr (.inr e)))).trans HK7.out (fun k e => .inl (.inl e))).trans (Kept.setCell (F := fun k => k = g) W7 (p := ⟨g, i * 5 + 4, none⟩) rfl (.int .i64 (now + xp))) (fun k e => .inl (.inr (.inl (by simp [Value.ownBlock, e]))))
    · rcases HA6.out k e with a | a
      · exact .inl a
      · exact .inr (by rw [a]; exact HB4.out.size)
  · go_enter Tryd.func13, Tryd.ntmps13
    go_wp2
    have HE : Hid (newJ (L, xp, xd, xs) i now ticks = ⟨i, now, now + xd, L, 0⟩) := mkHid (by unfold newJ; rw [← HL.out])
    have hT : w.drew.cell? ⟨b, 1, none⟩ = some (.slice ja s.js.length jc) ∧ w.drew.cell? ⟨g, i * 5 + 2, none⟩ = some (.int .i64 xd) := ⟨c1, q2⟩
    refine wp_region_till (fun w' => w'.cell? ⟨b, 1, none⟩ = some (.slice ja s.js.length jc) ∧ w'.cell? ⟨g, i * 5 + 2, none⟩ = some (.int .i64 xd)) 20 (by kernel_rfl) ?_
    refine freeD 0 59 (.pointer (some ⟨b, 0, none⟩)) rfl rfl (by kernel_rfl) (by kernel_rfl) (by kernel_rfl) (by decide) (fun _ _ _ h => h) (fun _ => hT) (Or.inl ⟨by kernel_rfl, by intro w _; go_simp⟩) ?_
    simp only [List.set_cons_zero, List.set_cons_succ]
    refine freeD 1 60 (.pointer (some ⟨b, 0, none⟩)) rfl rfl (by kernel_rfl) (by kernel_rfl) (by kernel_rfl) (by decide) (fun _ _ _ h => h) (fun _ => hT) (Or.inl ⟨by kernel_rfl, by intro w _; go_simp⟩) ?_
    simp only [List.set_cons_zero, List.set_cons_succ]
    refine freeD 2 61 (.pointer (some ⟨b, 0, none⟩)) rfl rfl (by kernel_rfl) (by kernel_rfl) (by kernel_rfl) (by decide) (fun _ _ _ h => h) (fun _ => hT) (Or.inl ⟨by kernel_rfl, by intro w _; go_simp⟩) ?_
    simp only [List.set_cons_zero, List.set_cons_succ]
    refine freeD 3 62 (.pointer (some ⟨b, 1, none⟩)) rfl rfl (by kernel_rfl) (by kernel_rfl) (by kernel_rfl) (by decide) (fun _ _ _ h => h) (fun _ => hT) (Or.inl ⟨by kernel_rfl, by intro w _; go_simp⟩) ?_
    simp only [List.set_cons_zero, List.set_cons_succ]
    refine firstD 4 63 (.slice ja s.js.length jc) rfl rfl (by kernel_rfl) (by kernel_rfl) (by kernel_rfl) (by kernel_rfl) (by decide) (by kernel_rfl) (fun _ _ _ h => h) (Or.inl ⟨by kernel_rfl, by intro w hSw; (try dsimp only at hSw); go_simp⟩) hT ?_
    simp only [List.set_cons_zero, List.set_cons_succ]
    refine freeD 5 64 (.int .i64 (i : Int)) rfl rfl (by kernel_rfl) (by kernel_rfl) (by kernel_rfl) (by decide) (fun _ _ _ h => h) (fun _ => hT) (Or.inl ⟨by kernel_rfl, by intro w _; go_simp⟩) ?_
    simp only [List.set_cons_zero, List.set_cons_succ]
    refine freeD 6 65 (.int .i64 now) rfl rfl (by kernel_rfl) (by kernel_rfl) (by kernel_rfl) (by decide) (fun _ _ _ h => h) (fun _ => hT) (Or.inl ⟨by kernel_rfl, by intro w _; go_simp⟩) ?_
    simp only [List.set_cons_zero, List.set_cons_succ]
    refine freeD 7 66 (.int .i64 now) rfl rfl (by kernel_rfl) (by kernel_rfl) (by kernel_rfl) (by decide) (fun _ _ _ h => h) (fun _ => hT) (Or.inl ⟨by kernel_rfl, by intro w _; go_simp⟩) ?_
    simp only [List.set_cons_zero, List.set_cons_succ]
    refine freeD 8 67 (.pointer (some ⟨g, i * 5, none⟩)) rfl rfl (by kernel_rfl) (by kernel_rfl) (by kernel_rfl) (by decide) (fun _ _ _ h => h) (fun _ => hT) (Or.inl ⟨by kernel_rfl, by intro w _; go_simp⟩) ?_
    simp only [List.set_cons_zero, List.set_cons_succ]
    refine freeD 9 68 (.pointer (some ⟨g, i * 5, none⟩)) rfl rfl (by kernel_rfl) (by kernel_rfl) (by kernel_rfl) (by decide) (fun _ _ _ h => h) (fun _ => hT) (Or.inl ⟨by kernel_rfl, by intro w _; go_simp⟩) ?_
    simp only [List.set_cons_zero, List.set_cons_succ]
    refine freeD 10 69 (.pointer (some ⟨g, i * 5, none⟩)) rfl rfl (by kernel_rfl) (by kernel_rfl) (by kernel_rfl) (by decide) (fun _ _ _ h => h) (fun _ => hT) (Or.inl ⟨by kernel_rfl, by intro w _; go_simp⟩) ?_
    simp only [List.set_cons_zero, List.set_cons_succ]
    refine freeD 11 70 (.pointer (some ⟨g, i * 5 + 2, none⟩)) rfl rfl (by kernel_rfl) (by kernel_rfl) (by kernel_rfl) (by decide) (fun _ _ _ h => h) (fun _ => hT) (Or.inl ⟨by kernel_rfl, by intro w _; go_simp⟩) ?_
    simp only [List.set_cons_zero, List.set_cons_succ]
    refine firstD 12 71 (.int .i64 xd) rfl rfl (by kernel_rfl) (by kernel_rfl) (by kernel_rfl) (by kernel_rfl) (by decide) (by kernel_rfl) (fun _ _ _ h => h) (Or.inl ⟨by kernel_rfl, by intro w hSw; (try dsimp only at hSw); go_simp⟩) hT ?_
    simp only [List.set_cons_zero, List.set_cons_succ]
    refine freeD 13 72 (.int .i64 (now + xd)) rfl rfl (by kernel_rfl) (by kernel_rfl) (by kernel_rfl) (by decide) (fun _ _ _ h => h) (fun _ => hT) (Or.inl ⟨by kernel_rfl, by intro w _; go_simp⟩) ?_
    simp only [List.set_cons_zero, List.set_cons_succ]
    refine freeD 14 73 (.int .i64 L) rfl rfl (by kernel_rfl) (by kernel_rfl) (by kernel_rfl) (by decide) (fun _ _ _ h => h) (fun _ => hT) (Or.inl ⟨by kernel_rfl, by intro w _; go_simp⟩) ?_
    simp only [List.set_cons_zero, List.set_cons_succ]
    refine freeD 15 74 (.agg #[.int .i64 (i : Int), .int .i64 now, .int .i64 (now + xd), .int .i64 L, .int .i64 0]) rfl rfl (by kernel_rfl) (by kernel_rfl) (by kernel_rfl) (by decide) (fun _ _ _ h => h) (fun _ => hT) (Or.inl ⟨by kernel_rfl, by intro w _; go_simp⟩) ?_
    simp only [List.set_cons_zero, List.set_cons_succ]
    refine wpT_ready (rs := [16]) (by kernel_rfl) (by simp) (AllT.cons rfl (fun K hK => ?_) AllT.nil)
    go_simp
    obtain ⟨W4, hW4⟩ : ∃ W4, W4 = (w.alloc (.cells #[.int .i64 (i : Int), .int .i64 now, .int .i64 (now + xd), .int .i64 L, .int .i64 0] 45)).drew := ⟨_, rfl⟩
    have b4 : Below w.heap.size w W4 := by rw [hW4]; exact (ba (Below.refl _ _) _).drew
    have HR4 : Hid (RowIn 5 cj W4 (.slice (some ⟨w.heap.size, 0, none⟩) 1 1) [(⟨i, now, now + xd, L, 0⟩ : Jb)]) := mkHid (by
      rw [hW4]
      exact RowIn.below (rowOne (f := cj) (⟨i, now, now + xd, L, 0⟩ : Jb) w 45) (Below.refl _ _).drew)
    have HP4 := mkHid (HG.out.below b4)
    have HB4 := mkHid b4
    have HKB : Hid (Kept (Ft (.slice (some ⟨g, 0, none⟩) s.xs.length c) (.slice ja s.js.length jc) b) w W4) := mkHid (kept_new b4)
    rw [← hW4]
    clear hW4 b4 hT
    have d1 := HP4.out.c1
    have d2 := kc q2 HB4.out
    refine hK.out _ _ (fun _ => ⟨d1, d2⟩) ?_
    clear hK K
    (try simp only [Act.put])
    generalize w.heap.size = z3 at *
    refine wpT_ready (rs := [17]) (by kernel_rfl) (by simp) (AllT.cons rfl (fun K hK => ?_) AllT.nil)
    refine step_append_src5 (w := W4) rfl (.tmp 63) (.tmp 75) 54 54 rfl base 45 ie Tryd.underlying54 hie.out.1 (.agg #[.int .i64 0, .int .i64 0, .int .i64 0, .int .i64 0, .int .i64 0]) 40 hie.out.2.1 rfl hie.out.2.2.1 hie.out.2.2.2 (.slice ja s.js.length jc) s.js.length (s.js.flatMap cj) (by simp [Act.eval]) HP4.out.jown _ 1 (cj ⟨i, now, now + xd, L, 0⟩) (by simp [Act.eval]) (srcOne (f := cj) (x := (⟨i, now, now + xd, L, 0⟩ : Jb)) Tryd.underlying54 (by omega) cj_len onej HR4.out) (by unfold maxLen; omega) (by omega) HP4.out.base_le ?_
    intro v6 w6 ho6 hg6 hat6
    have HPN := mkHid (HP4.out.pushJ (x := ⟨i, now, now + xd, L, 0⟩) ho6 hg6 hat6)
    have hk6 := Kept.grown hg6 (F := fun k => (Value.slice ja s.js.length jc).ownBlock = some k) (fun k hk => hk)
    obtain ⟨na6, nc6, hv6, _⟩ := own_sh ho6
    subst hv6
    have hpb := (hk6.block b HP4.out.lt HP4.out.jb).trans HP4.out.blk
    have e1 : w6.cell? ⟨b, 1, none⟩ = some (.slice ja s.js.length jc) := cell_of_block hpb rfl
    have g1 : w6.frozen? ⟨b, 1, none⟩ = false := frozen_of_block hpb
    have e2 := hk6.cell d2 (fun e => HP4.out.tj g rfl e)
    have HK6 := mkHid hk6
    have HA6 : Hid (∀ k, (Value.slice na6 (s.js.length + 1) nc6).ownBlock = some k → (Value.slice ja s.js.length jc).ownBlock = some k ∨ k = W4.heap.size) := mkHid (fun k e => by
      rcases hat6 with a | a
      · exact .inl (a ▸ e)
      · rw [a] at e; simp at e; exact .inr e.symm)
    clear ho6 hg6 hat6 hk6 hpb
    refine hK.out _ _ (fun _ => ⟨e1, e2⟩) ?_
    clear hK K
    (try simp only [Act.put])
    refine freeD 18 77 (.pointer (some ⟨b, 0, none⟩)) rfl rfl (by kernel_rfl) (by kernel_rfl) (by kernel_rfl) (by decide) (fun _ _ _ h => h) (fun _ => ⟨e1, e2⟩) (Or.inl ⟨by kernel_rfl, by intro w _; go_simp⟩) ?_
    simp only [List.set_cons_zero, List.set_cons_succ]
    refine freeD 19 78 (.pointer (some ⟨b, 1, none⟩)) rfl rfl (by kernel_rfl) (by kernel_rfl) (by kernel_rfl) (by decide) (fun _ _ _ h => h) (fun _ => ⟨e1, e2⟩) (Or.inl ⟨by kernel_rfl, by intro w _; go_simp⟩) ?_
    simp only [List.set_cons_zero, List.set_cons_succ]
    refine wpT_ready (rs := [20]) (by kernel_rfl) (by simp) (AllT.cons rfl (fun K hK => ?_) AllT.nil)
    go_simp
    refine hK.out _ _ (bool_no (by kernel_rfl)) ?_
    clear hK K e1 e2 g1
    refine wpT_done (by kernel_rfl) ?_ _
    have HK7 : Hid (Kept (fun k => k = b) w6 (w6.setCell ⟨b, 1, none⟩ (.slice na6 (s.js.length + 1) nc6))) := mkHid (Kept.setCell (F := fun k => k = b) w6 (p := ⟨b, 1, none⟩) rfl (.slice na6 (s.js.length + 1) nc6))
    generalize w6.setCell ⟨b, 1, none⟩ (.slice na6 (s.js.length + 1) nc6) = W7 at *
    clear c0 c1 q0 q1 q2 q3 q4 d1 d2
    have c0 := HPN.out.c0
    obtain ⟨g', c', eg, q⟩ := own_task HPN.out.town HX.out
    simp only [Value.slice.injEq, Option.some.injEq, Addr.mk.injEq] at eg
    obtain ⟨⟨rfl, _⟩, _, rfl⟩ := eg
    obtain ⟨q0, q1, q2, q3, q4, qf⟩ := q
    simp only at q0 q1 q2 q3 q4
    have f4 := qf (i * 5 + 4)
    clear qf
    go_wp2
    go_ret
    refine ⟨rfl, ?_⟩
    have hE : s.put i ((L, xp, xd, xs), xa) now ticks = ⟨s.xs.set i ((L, xp, xd, xs), now + xp), s.js ++ [⟨i, now, now + xd, L, 0⟩]⟩ := by
      unfold Gt.put
      rw [HE.out]
    rw [hE]
    refine GC.mk (HPN.out.setAg rfl HX.out (now + xp)) ?_ (fun k e => ?_)
    · refine ((HKB.out.trans HK6.out (fun k e => .inl (.inr (.inr e)))).trans HK7.out (fun k e => .inl (.inl e))).trans (Kept.setCell (F := fun k => k = g) W7 (p := ⟨g, i * 5 + 4, none⟩) rfl (.int .i64 (now + xp))) (fun k e => .inl (.inr (.inl (by simp [Value.ownBlock, e]))))
    · rcases HA6.out k e with a | a
      · exact .inl a
      · exact .inr (by rw [a]; exact HB4.out.size)
/-- Release, whatever is asked. -/
theorem release_is (base : Nat) (w : World) (b : Nat) (p : Int) (tv jv : Value) (s : Gt) (k now ticks : Int) (a : Nat → Addr) (h : GB base w b p tv jv s) (ok : s.Ok p) (E : Eg w a) : Calls Tryd.prog 13 #[.pointer (some ⟨b, 0, none⟩), .int .i64 k, .int .i64 now, .int .i64 ticks] w fun e w' => e = .returned (eg a (relC s k now)) ∧ GC base w b p tv jv (s.rel k now ticks) w' := by
  rcases relC_cases s k now with ⟨e, hc⟩ | ⟨n0, n1, i, x, rfl, hi, hx, ⟨e, h1⟩ | ⟨e, h1, h2⟩ | ⟨e, h1, h2⟩⟩
  · rw [e, rel_no (by omega)]
    refine (rel_num base w b p tv jv s k now ticks _ h E.num hc).mono ?_
    rintro r w' ⟨rfl, rfl⟩
    exact ⟨rfl, GC.same h⟩
  · rw [e, rel_no (by omega)]
    refine (rel_busy base w b p tv jv s i x now ticks _ h E.busy hx n0 n1 h1).mono ?_
    rintro r w' ⟨rfl, rfl⟩
    exact ⟨rfl, GC.same h⟩
  · rw [e, rel_no (by omega)]
    refine (rel_full base w b p tv jv s i x now ticks _ h E.full hx n0 n1 h1 h2).mono ?_
    rintro r w' ⟨rfl, rfl⟩
    exact ⟨rfl, GC.same h⟩
  · rw [e, rel_yes e hx]
    refine (rel_ok base w b p tv jv s i x now ticks h (ok.ok x (List.mem_of_getElem? hx)) hx n0 n1 h1 h2).mono ?_
    rintro r w' ⟨rfl, hg⟩
    exact ⟨rfl, hg⟩
end Go.Proofs.YthncfkeoephipaaDoor
