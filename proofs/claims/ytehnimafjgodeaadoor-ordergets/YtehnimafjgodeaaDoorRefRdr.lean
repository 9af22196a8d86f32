/- The document's reader: Num. -/
import Derived.Test.YtehnimafjgodeaaDoorRefRd
namespace Go.Proofs.YtehnimafjgodeaaDoor
open Go.ChangeShapes Go.WideShapes Go.ChangeAt Go.RowKit
set_option maxRecDepth 100000

theorem refrd_yes (w : World) (v : Value) (bs : List Int) (a N : Nat) (r : List Int) (h : Rd w v bs) (ha : a ≤ bs.length) (hl : (bs.length : Int) ≤ 140737488355328) (hN : (N : Int) ≤ 9223372036854775807) (he : bs.drop a = enc N ++ r) :
    Calls Tryd.prog 66 #[v, .int .i64 (a : Int)] w fun e w' => e = .returned (.tuple #[.int .i64 (N : Int), .int .i64 ((a + (enc N).length : Nat) : Int), .bool true]) ∧ Below w.heap.size w w' := by
  refine (refrd_any w v bs a h ha hl).mono ?_
  rintro e w' ⟨⟨n, nx, ok, rfl, hp⟩, hb⟩
  refine ⟨?_, hb⟩
  rcases hp with ⟨rfl, M, s, rfl, _, rfl, hd⟩ | ⟨rfl, hno⟩
  · rw [he] at hd
    obtain ⟨rfl, _⟩ := enc_free N M r s hd
    rfl
  · exact absurd he (hno N r hN)
theorem refrd_none (w : World) (v : Value) (bs : List Int) (a : Nat) (h : Rd w v bs) (ha : a ≤ bs.length) (hl : (bs.length : Int) ≤ 140737488355328) (hno : ∀ (N : Nat) (r : List Int), (N : Int) ≤ 9223372036854775807 → bs.drop a ≠ enc N ++ r) :
    Calls Tryd.prog 66 #[v, .int .i64 (a : Int)] w fun e w' => ∃ n nx : Int, e = .returned (.tuple #[.int .i64 n, .int .i64 nx, .bool false]) ∧ Below w.heap.size w w' := by
  refine (refrd_any w v bs a h ha hl).mono ?_
  rintro e w' ⟨⟨n, nx, ok, rfl, hp⟩, hb⟩
  rcases hp with ⟨rfl, M, s, rfl, hM, rfl, hd⟩ | ⟨rfl, _⟩
  · exact absurd hd (hno M s hM)
  · exact ⟨n, nx, rfl, hb⟩
/-- The document's reader in memory. -/
def MR (w : World) (m : Nat) (v : Value) (i : Nat) : Prop := w.heap[m]? = some (.cells #[v, .int .i64 (i : Int)] 94 (0, 0))
theorem MR.lt {w : World} {m : Nat} {v : Value} {i : Nat} (h : MR w m v i) : m < w.heap.size := (Array.getElem?_eq_some_iff.1 h).1
theorem MR.late {w w' : World} {m : Nat} {v : Value} {i : Nat} (h : MR w m v i) (hb : Below w.heap.size w w') : MR w' m v i := by
  unfold MR
  rw [hb.block m h.lt]
  exact h
theorem below_kept (F : Nat → Prop) {w w' : World} (hb : Below w.heap.size w w') : Kept F w w' := ⟨hb.os, hb.tape, hb.output, hb.size, fun k hk _ => hb.block k hk⟩
theorem MR.step {w : World} {m : Nat} {v : Value} {i L : Nat} {l : List Int} (h : MR w m v i) (hL : L = l.length) : MR (w.setCell ⟨m, 1, none⟩ (.int .i64 ((i : Int) + (L : Int)))) m v (i + l.length) := by
  unfold MR
  rw [heap_set h, hL]
  simp
set_option maxHeartbeats 6400000 in
theorem refrnum_yes (w : World) (m : Nat) (v : Value) (bs : List Int) (i N : Nat) (r : List Int) (most : Int) (hM : MR w m v i) (h : Rd w v bs) (hi : i ≤ bs.length) (hl : (bs.length : Int) ≤ 140737488355328) (hN : (N : Int) ≤ 9223372036854775807) (he : bs.drop i = enc N ++ r) (hmost : (N : Int) ≤ most) :
    Calls Tryd.prog 49 #[.pointer (some ⟨m, 0, none⟩), .int .i64 most] w fun e w' => e = .returned (.tuple #[.int .i64 (N : Int), .int .i64 0]) ∧ MR w' m v (i + (enc N).length) ∧ Kept (fun j => j = m) w w' := by
  have c0 := cell_of_block (i := 0) hM rfl
  have c1 := cell_of_block (i := 1) hM rfl
  have HH := mkHid (And.intro hM (And.intro h (And.intro hi (And.intro hl (And.intro hN he)))))
  obtain ⟨L, hL⟩ : ∃ L, L = (enc N).length := ⟨_, rfl⟩
  have HL := mkHid hL
  clear hM h hi hl he hL
  have c0' : w.cell? ⟨m, 0, none⟩ = some v := c0
  have c1' : w.cell? ⟨m, 1, none⟩ = some (.int .i64 (i : Int)) := c1
  clear c0 c1
  go_enter Tryd.func49, Tryd.ntmps49
  go_wp2
  go_region_with (first | (go_at_call 66; refine (refrd_yes _ v bs i N r (HH.out.2.1.later (Below.refl _ _).drew) HH.out.2.2.1 HH.out.2.2.2.1 HH.out.2.2.2.2.1 HH.out.2.2.2.2.2).mono ?_; rintro e w2 ⟨rfl, hb2⟩; rw [← HL.out]; have hb2' : Below w.heap.size w w2 := ((Below.refl _ _).drew).trans hb2; have hM2 := HH.out.1.late hb2'; have d1 : w2.cell? ⟨m, 1, none⟩ = some (.int .i64 (i : Int)) := cell_of_block hM2 rfl; have d2 : w2.frozen? ⟨m, 1, none⟩ = false := frozen_of_block hM2; have HM2 := mkHid hM2; clear hb2 hM2))
  all_goals go_wp2
  all_goals go_ret2
  all_goals exact ⟨rfl, HM2.out.step HL.out, (below_kept _ hb2').trans (Kept.setCell (F := fun j => j = m) w2 (p := ⟨m, 1, none⟩) rfl _) (fun j hj => .inl hj)⟩
set_option maxHeartbeats 6400000 in
theorem refrnum_much (w : World) (m : Nat) (v : Value) (bs : List Int) (i N : Nat) (r : List Int) (most : Int) (hM : MR w m v i) (h : Rd w v bs) (hi : i ≤ bs.length) (hl : (bs.length : Int) ≤ 140737488355328) (hN : (N : Int) ≤ 9223372036854775807) (he : bs.drop i = enc N ++ r) (hmost : most < (N : Int)) :
    Calls Tryd.prog 49 #[.pointer (some ⟨m, 0, none⟩), .int .i64 most] w fun e w' => e = .returned (.tuple #[.int .i64 0, .int .i64 3]) ∧ Below w.heap.size w w' := by
  have c0' : w.cell? ⟨m, 0, none⟩ = some v := cell_of_block hM rfl
  have c1' : w.cell? ⟨m, 1, none⟩ = some (.int .i64 (i : Int)) := cell_of_block hM rfl
  have HH := mkHid (And.intro h (And.intro hi (And.intro hl (And.intro hN he))))
  clear hM h hi hl he
  go_enter Tryd.func49, Tryd.ntmps49
  go_wp2
  go_region_with (first | (go_at_call 66; refine (refrd_yes _ v bs i N r (HH.out.1.later (Below.refl _ _).drew) HH.out.2.1 HH.out.2.2.1 HH.out.2.2.2.1 HH.out.2.2.2.2).mono ?_; rintro e w2 ⟨rfl, hb2⟩; have hb2' : Below w.heap.size w w2 := ((Below.refl _ _).drew).trans hb2; clear hb2))
  all_goals go_wp2
  all_goals go_ret2
  all_goals exact ⟨rfl, hb2'⟩
set_option maxHeartbeats 6400000 in
theorem refrnum_none (w : World) (m : Nat) (v : Value) (bs : List Int) (i : Nat) (most : Int) (hM : MR w m v i) (h : Rd w v bs) (hi : i ≤ bs.length) (hl : (bs.length : Int) ≤ 140737488355328) (hno : ∀ (N : Nat) (r : List Int), (N : Int) ≤ 9223372036854775807 → bs.drop i ≠ enc N ++ r) :
    Calls Tryd.prog 49 #[.pointer (some ⟨m, 0, none⟩), .int .i64 most] w fun e w' => e = .returned (.tuple #[.int .i64 0, .int .i64 3]) ∧ Below w.heap.size w w' := by
  have c0' : w.cell? ⟨m, 0, none⟩ = some v := cell_of_block hM rfl
  have c1' : w.cell? ⟨m, 1, none⟩ = some (.int .i64 (i : Int)) := cell_of_block hM rfl
  have HH := mkHid (And.intro h (And.intro hi (And.intro hl hno)))
  clear hM h hi hl hno
  go_enter Tryd.func49, Tryd.ntmps49
  go_wp2
  go_region_with (first | (go_at_call 66; refine (refrd_none _ v bs i (HH.out.1.later (Below.refl _ _).drew) HH.out.2.1 HH.out.2.2.1 HH.out.2.2.2).mono ?_; rintro e w2 ⟨n, nx, rfl, hb2⟩; have hb2' : Below w.heap.size w w2 := ((Below.refl _ _).drew).trans hb2; clear hb2))
  all_goals go_wp2
  all_goals go_ret2
  all_goals exact ⟨rfl, hb2'⟩
end Go.Proofs.YtehnimafjgodeaaDoor
