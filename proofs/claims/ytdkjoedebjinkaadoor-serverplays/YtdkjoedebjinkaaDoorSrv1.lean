/- Package server: the small calls beneath. -/
import Derived.Test.YtdkjoedebjinkaaDoorSrvMath2
import Derived.Test.YtdkjoedebjinkaaDoorLaid
import Derived.Test.YtdkjoedebjinkaaDoorSrc
import Derived.Below
import Derived.BigQuiet
import Derived.Deep.RegionHeld3
namespace Go.Proofs.YtdkjoedebjinkaaDoor
open Go.ChangeShapes Go.WideShapes Go.ChangeAt Go.RowKit

theorem ba {W w : World} (h : Below W.heap.size W w) (o : Obj) : Below W.heap.size W (w.alloc o) := h.alloc h.size o
theorem bt {W w w1 : World} (h : Below W.heap.size W w) (hb : Below w.heap.size w w1) : Below W.heap.size W w1 := h.trans (hb.mono h.size)
theorem kc {w w1 : World} {a : Addr} {v : Value} (h : w.cell? a = some v) (hb : Below w.heap.size w w1) : w1.cell? a = some v :=
  (hb.cell (p := a) (World.block_lt_of_cell? w a h)).trans h
theorem kl {w : World} {a : Addr} {v : Value} (h : w.cell? a = some v) (o : Obj) : (w.alloc o).cell? a = some v := kc h ((Below.refl _ _).alloc (Nat.le_refl _) _)
theorem mkHid {p : Prop} (h : p) : Hid p := h
theorem wfit {n : Int} (h1 : -9223372036854775808 ≤ n) (h2 : n ≤ 9223372036854775807) : IntKind.i64.wrap n = n := by rw [IntKind.wrap_i64]; omega
theorem cell_of_block {w : World} {p i : Nat} {c : Array Value} {t : TypeId} {v : Value} (h : w.heap[p]? = some (.cells c t (0, 0))) (hi : c[i]? = some v) : w.cell? ⟨p, i, none⟩ = some v := by
  rw [cell_of_row w p i c t (0, 0) h]; exact hi
theorem frozen_of_block {w : World} {p i : Nat} {c : Array Value} {t : TypeId} (h : w.heap[p]? = some (.cells c t (0, 0))) : w.frozen? ⟨p, i, none⟩ = false := by
  simp [World.frozen?, h]
theorem heap_set {w : World} {p i : Nat} {c : Array Value} {t : TypeId} {v : Value} (h : w.heap[p]? = some (.cells c t (0, 0))) : (w.setCell ⟨p, i, none⟩ v).heap[p]? = some (.cells (c.set! i v) t (0, 0)) := by
  simp [World.setCell, Array.getElem?_modify, h]
theorem new_last {w w3 : World} {o : Obj} (h : Below (w.alloc o).heap.size (w.alloc o) w3) : w3.heap[w.heap.size]? = some o ∧ Below w.heap.size w w3 := by
  have hz : (w.alloc o).heap.size = w.heap.size + 1 := by simp
  refine ⟨by rw [h.block _ (by omega)]; exact heap_alloc_new w o, ((Below.refl _ w).alloc (Nat.le_refl _) o).trans (h.mono (by omega))⟩
theorem hold {w w' : World} {b : Nat} {o : Obj} (h : w.heap[b]? = some o) (hb : Below w.heap.size w w') : w'.heap[b]? = some o := by
  rw [hb.block _ (Array.getElem?_eq_some_iff.1 h).1]; exact h
abbrev vS (s : Sv) : Value := .agg #[.int .i64 s.1, .int .i64 s.2.1, .int .i64 s.2.2]
abbrev vE (a : Addr) : Value := .iface 62 (.pointer (some a))
/-- How a server begins a tick, by its kind. -/
def ent (s : Sv) : FuncId := if s.1 = 1 then 29 else if s.1 = 2 then 30 else 31
/-- A server in its block. -/
def SB (w : World) (b : Nat) (s : Sv) (m : Int) (wk : Bool) (x : Ss) : Prop := w.heap[b]? = some (.cells #[.bool x.on, .int .i64 x.bud, .int .i64 x.dl, .int .i64 s.1, .int .i64 s.2.1, .int .i64 s.2.2, .int .i64 m, .bool wk, .func (.func (ent s)) #[] #[]] 55 (0, 0))
theorem SB.lt {w : World} {b : Nat} {s : Sv} {m : Int} {wk : Bool} {x : Ss} (h : SB w b s m wk x) : b < w.heap.size := (Array.getElem?_eq_some_iff.1 h).1
theorem SB.alloc {w : World} {b : Nat} {s : Sv} {m : Int} {wk : Bool} {x : Ss} (h : SB w b s m wk x) (o : Obj) : SB (w.alloc o) b s m wk x := (Below.heap_alloc w o b h.lt).trans h
theorem SB.kept {w w' : World} {F : Nat → Prop} {b : Nat} {s : Sv} {m : Int} {wk : Bool} {x : Ss} (h : SB w b s m wk x) (hk : Kept F w w') (hn : ¬ F b) : SB w' b s m wk x := (hk.block b h.lt hn).trans h
/-- Only block b is written, and what is new. -/
abbrev Kb (b : Nat) (w w' : World) : Prop := Kept (fun k => k = b) w w'
theorem Kb.trans {b : Nat} {w w1 w2 : World} (h : Kb b w w1) (h2 : Kb b w1 w2) : Kb b w w2 := Kept.trans h h2 (fun _ h => .inl h)
theorem Kb.below {b B : Nat} {W w w' : World} (h : Kb b w w') (hb : Below B W w) (hB : B ≤ b) (hl : b < w.heap.size) : Below B W w' := hb.trans (Kept.below h (fun k hk => by subst hk; exact hB) (by omega))
theorem SB.c0 {w : World} {b : Nat} {s : Sv} {m : Int} {wk : Bool} {x : Ss} (h : SB w b s m wk x) : w.cell? ⟨b, 0, none⟩ = some (.bool x.on) := cell_of_block (i := 0) h rfl
theorem SB.c1 {w : World} {b : Nat} {s : Sv} {m : Int} {wk : Bool} {x : Ss} (h : SB w b s m wk x) : w.cell? ⟨b, 1, none⟩ = some (.int .i64 x.bud) := cell_of_block (i := 1) h rfl
theorem SB.c2 {w : World} {b : Nat} {s : Sv} {m : Int} {wk : Bool} {x : Ss} (h : SB w b s m wk x) : w.cell? ⟨b, 2, none⟩ = some (.int .i64 x.dl) := cell_of_block (i := 2) h rfl
theorem SB.c3 {w : World} {b : Nat} {s : Sv} {m : Int} {wk : Bool} {x : Ss} (h : SB w b s m wk x) : w.cell? ⟨b, 3, none⟩ = some (.int .i64 s.1) := cell_of_block (i := 3) h rfl
theorem SB.c4 {w : World} {b : Nat} {s : Sv} {m : Int} {wk : Bool} {x : Ss} (h : SB w b s m wk x) : w.cell? ⟨b, 4, none⟩ = some (.int .i64 s.2.1) := cell_of_block (i := 4) h rfl
theorem SB.c5 {w : World} {b : Nat} {s : Sv} {m : Int} {wk : Bool} {x : Ss} (h : SB w b s m wk x) : w.cell? ⟨b, 5, none⟩ = some (.int .i64 s.2.2) := cell_of_block (i := 5) h rfl
theorem SB.c6 {w : World} {b : Nat} {s : Sv} {m : Int} {wk : Bool} {x : Ss} (h : SB w b s m wk x) : w.cell? ⟨b, 6, none⟩ = some (.int .i64 m) := cell_of_block (i := 6) h rfl
theorem SB.c7 {w : World} {b : Nat} {s : Sv} {m : Int} {wk : Bool} {x : Ss} (h : SB w b s m wk x) : w.cell? ⟨b, 7, none⟩ = some (.bool wk) := cell_of_block (i := 7) h rfl
theorem SB.c8 {w : World} {b : Nat} {s : Sv} {m : Int} {wk : Bool} {x : Ss} (h : SB w b s m wk x) : w.cell? ⟨b, 8, none⟩ = some (.func (.func (ent s)) #[] #[]) := cell_of_block (i := 8) h rfl
theorem SB.fz {w : World} {b : Nat} {s : Sv} {m : Int} {wk : Bool} {x : Ss} (h : SB w b s m wk x) (i : Nat) : w.frozen? ⟨b, i, none⟩ = false := frozen_of_block h
theorem SB.put3 {w : World} {b : Nat} {s : Sv} {m : Int} {wk : Bool} {x : Ss} (h : SB w b s m wk x) (on : Bool) (bud dl : Int) : SB (((w.setCell ⟨b, 0, none⟩ (.bool on)).setCell ⟨b, 1, none⟩ (.int .i64 bud)).setCell ⟨b, 2, none⟩ (.int .i64 dl)) b s m wk ⟨on, bud, dl⟩ := by
  unfold SB at *
  rw [heap_set (heap_set (heap_set h))]; rfl
theorem SB.put2 {w : World} {b : Nat} {s : Sv} {m : Int} {wk : Bool} {x : Ss} (h : SB w b s m wk x) (on : Bool) (bud : Int) : SB ((w.setCell ⟨b, 0, none⟩ (.bool on)).setCell ⟨b, 1, none⟩ (.int .i64 bud)) b s m wk ⟨on, bud, x.dl⟩ := by
  unfold SB at *
  rw [heap_set (heap_set h)]; rfl
theorem SB.put1 {w : World} {b : Nat} {s : Sv} {m : Int} {wk : Bool} {x : Ss} (h : SB w b s m wk x) (bud : Int) : SB (w.setCell ⟨b, 1, none⟩ (.int .i64 bud)) b s m wk ⟨x.on, bud, x.dl⟩ := by
  unfold SB at *
  rw [heap_set h]; rfl
theorem SB.putw {w : World} {b : Nat} {s : Sv} {m : Int} {wk : Bool} {x : Ss} (h : SB w b s m wk x) (wk' : Bool) : SB (w.setCell ⟨b, 7, none⟩ (.bool wk')) b s m wk' x := by
  unfold SB at *
  rw [heap_set h]; rfl
theorem kb_alloc (b : Nat) (w : World) (o : Obj) : Kb b w (w.alloc o) := Kept.alloc _ w o
theorem kb_set {b : Nat} {w w1 : World} (h : Kb b w w1) (i : Nat) (v : Value) : Kb b w (w1.setCell ⟨b, i, none⟩ v) := Kb.trans h (Kept.setCell (F := fun k => k = b) w1 rfl v)
theorem fill_is (w : World) (b : Nat) (s : Sv) (m now : Int) (wk : Bool) (x : Ss) (h : SB w b s m wk x) (n0 : 0 ≤ now) (n1 : now ≤ 1099511727776) (hs : okS s) : Calls Tryd.prog 35 #[.pointer (some ⟨b, 0, none⟩), vS s, .int .i64 now] w fun e w' => e = .returned (.tuple #[]) ∧ SB w' b s m wk (fillS s now) ∧ Kb b w w' := by
  have h2 := h.alloc (.cells #[.int .i64 s.1, .int .i64 s.2.1, .int .i64 s.2.2] 23)
  obtain ⟨k, q, t⟩ := s
  obtain ⟨h1, h3, h4, h5, h6⟩ := hs
  simp only at h1 h3 h4 h5 h6
  have c0 := h2.c0
  have c1 := h2.c1
  have c2 := h2.c2
  have f0 := h2.fz 0
  have f1 := h2.fz 1
  have f2 := h2.fz 2
  have HS := mkHid h2
  clear h2 h
  go_enter Tryd.func35, Tryd.ntmps35
  go_wp2
  go_end0
  exact ⟨rfl, HS.out.put3 _ _ _, kb_set (kb_set (kb_set (kb_alloc b w _) _ _) _ _) _ _⟩
theorem drop_is (w : World) (b : Nat) (s : Sv) (m : Int) (wk : Bool) (x : Ss) (h : SB w b s m wk x) : Calls Tryd.prog 33 #[.pointer (some ⟨b, 0, none⟩)] w fun e w' => e = .returned (.tuple #[]) ∧ SB w' b s m wk (dropS x) ∧ Kb b w w' := by
  have c0 := h.c0
  have c1 := h.c1
  have f0 := h.fz 0
  have f1 := h.fz 1
  have HS := mkHid h
  clear h
  go_enter Tryd.func33, Tryd.ntmps33
  go_wp2
  go_end0
  exact ⟨rfl, HS.out.put2 _ _, kb_set (kb_set (Kept.refl _ w) _ _) _ _⟩
theorem ready_is (w : World) (b : Nat) (s : Sv) (m : Int) (wk : Bool) (x : Ss) (h : SB w b s m wk x) : Calls Tryd.prog 19 #[.pointer (some ⟨b, 0, none⟩)] w fun e w' => e = .returned (.bool (rdyS wk x)) ∧ w' = w := by
  have c1 := h.c1
  have c7 := h.c7
  clear h
  obtain ⟨on, bud, dl⟩ := x
  simp only at c1
  have hc : wk = false ∨ (wk = true ∧ bud = 0) ∨ (wk = true ∧ ¬ bud = 0) := by cases wk <;> simp; omega
  rcases hc with rfl | ⟨rfl, rfl⟩ | ⟨rfl, hb⟩
  all_goals
    go_enter Tryd.func19, Tryd.ntmps19
    go_wp2
    go_ret
    exact ⟨by simp [rdyS, *], rfl⟩
theorem budget_is (w : World) (b : Nat) (s : Sv) (m : Int) (wk : Bool) (x : Ss) (h : SB w b s m wk x) : Calls Tryd.prog 20 #[.pointer (some ⟨b, 0, none⟩)] w fun e w' => e = .returned (.int .i64 x.bud) ∧ w' = w := by
  have c1 := h.c1
  clear h
  go_enter Tryd.func20, Tryd.ntmps20
  go_wp2
  go_ret
  exact ⟨rfl, rfl⟩
theorem deadline_is (w : World) (b : Nat) (s : Sv) (m : Int) (wk : Bool) (x : Ss) (h : SB w b s m wk x) : Calls Tryd.prog 21 #[.pointer (some ⟨b, 0, none⟩)] w fun e w' => e = .returned (.int .i64 x.dl) ∧ w' = w := by
  have c2 := h.c2
  clear h
  go_enter Tryd.func21, Tryd.ntmps21
  go_wp2
  go_ret
  exact ⟨rfl, rfl⟩
theorem on_is (w : World) (b : Nat) (s : Sv) (m : Int) (wk : Bool) (x : Ss) (h : SB w b s m wk x) : Calls Tryd.prog 22 #[.pointer (some ⟨b, 0, none⟩)] w fun e w' => e = .returned (.bool x.on) ∧ w' = w := by
  have c0 := h.c0
  clear h
  go_enter Tryd.func22, Tryd.ntmps22
  go_wp2
  go_ret
  exact ⟨rfl, rfl⟩
theorem charge_yes (w : World) (b : Nat) (s : Sv) (m : Int) (wk : Bool) (x : Ss) (h : SB w b s m wk x) (hr : rdyS wk x = true) (h0 : 0 ≤ x.bud) (h1 : x.bud ≤ 256) : Calls Tryd.prog 17 #[.pointer (some ⟨b, 0, none⟩)] w fun e w' => e = .returned .nilIface ∧ SB w' b s m wk (chS x) ∧ Kb b w w' := by
  have c1 := h.c1
  have f1 := h.fz 1
  have HS := mkHid h
  clear h
  go_enter Tryd.func17, Tryd.ntmps17
  go_wp2_with (go_at_call 19; refine (ready_is w b s m wk x HS.out).mono ?_; rintro e w1 ⟨rfl, hw⟩; rw [hw]; clear hw; rw [hr])
  go_ret
  exact ⟨rfl, HS.out.put1 _, kb_set (Kept.refl _ w) _ _⟩
theorem charge_no (w : World) (b : Nat) (s : Sv) (m : Int) (wk : Bool) (x : Ss) (a : Addr) (h : SB w b s m wk x) (hr : rdyS wk x = false) (he : w.cell? ⟨0, 0, none⟩ = some (vE a)) : Calls Tryd.prog 17 #[.pointer (some ⟨b, 0, none⟩)] w fun e w' => e = .returned (vE a) ∧ w' = w := by
  have HS := mkHid h
  clear h
  go_enter Tryd.func17, Tryd.ntmps17
  go_wp2_with (go_at_call 19; refine (ready_is w b s m wk x HS.out).mono ?_; rintro e w1 ⟨rfl, hw⟩; rw [hw]; clear hw; rw [hr])
  go_ret
  exact ⟨rfl, rfl⟩
end Go.Proofs.YtdkjoedebjinkaaDoor
