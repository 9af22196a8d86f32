/- The chapter's example; a case and a guest in a law's memory. -/
import Derived.Test.YthncfkeoephipaaDoorGs7
namespace Go.Proofs.YthncfkeoephipaaDoor
open Go.ChangeShapes Go.WideShapes Go.ChangeAt Go.RowKit
attribute [local go_sem] World.cell?_alloc_some frozen_alloc_some

theorem GB.bel {base : Nat} {w w' : World} {b : Nat} {p : Int} {tv jv : Value} {s : Gt} (h : GB base w b p tv jv s) (hk : Kept (Ft tv jv b) w w') : Below base w w' := hk.below (fun _ e => (h.foot e).1) h.base_le
theorem tks_two (w : World) (x y : Tk) : Tks (w.alloc (.cells #[.int .i64 x.1, .int .i64 x.2.1, .int .i64 x.2.2.1, .int .i64 x.2.2.2, .int .i64 y.1, .int .i64 y.2.1, .int .i64 y.2.2.1, .int .i64 y.2.2.2] 37)) (.slice (some ⟨w.heap.size, 0, none⟩) 2 2) [x, y] := by
  have h := heap_alloc_new w (.cells #[.int .i64 x.1, .int .i64 x.2.1, .int .i64 x.2.2.1, .int .i64 x.2.2.2, .int .i64 y.1, .int .i64 y.2.1, .int .i64 y.2.2.1, .int .i64 y.2.2.2] 37)
  refine ⟨_, _, rfl, by simp, fun _ => ⟨w.heap.size, 0, rfl, fun i z hz => ?_⟩⟩
  have hi : i = 0 ∨ i = 1 := by
    have := (List.getElem?_eq_some_iff.mp hz).1
    simp at this
    omega
  rcases hi with rfl | rfl
  · simp at hz; subst hz
    exact ⟨cell_of_block h rfl, cell_of_block h rfl, cell_of_block h rfl, cell_of_block h rfl⟩
  · simp at hz; subst hz
    exact ⟨cell_of_block h rfl, cell_of_block h rfl, cell_of_block h rfl, cell_of_block h rfl⟩
abbrev ex15 : List Tk := [(2, 10, 10, 0), (3, 20, 5, 3)]
abbrev exs0 : Gt := ⟨ex15.map (fun t => (t, 0)), []⟩
theorem ex_ok : okG 1 ex15 := by
  refine ⟨.inl rfl, by simp, by simp, fun x hx => ?_⟩
  simp at hx
  rcases hx with rfl | rfl <;> exact ⟨by decide, by decide, by decide, by decide, by decide, by decide⟩
theorem ex_ok0 : Gt.Ok 1 exs0 := start_ok ex_ok.1 ex_ok.2.1 ex_ok.2.2.1 ex_ok.2.2.2
theorem ex_r0 : relC exs0 0 0 = 0 := by decide
theorem ex_r1 : relC (exs0.rel 0 0 2) 1 0 = 0 := by decide
theorem ex_next : ((exs0.rel 0 0 2).rel 1 0 9).js[nx 1 ((exs0.rel 0 0 2).rel 1 0 9).ts ((exs0.rel 0 0 2).rel 1 0 9).js]? = some ⟨1, 0, 5, 3, 0⟩ := by rfl
theorem ex_all : ∃ s0 s1 s2 : Gt, s0 = exs0 ∧ relC s0 0 0 = 0 ∧ s1 = s0.rel 0 0 2 ∧ relC s1 1 0 = 0 ∧ s2 = s1.rel 1 0 9 ∧ s0.Ok 1 ∧ s1.Ok 1 ∧ s2.Ok 1 ∧ s2.js[nx 1 s2.ts s2.js]? = some ⟨1, 0, 5, 3, 0⟩ :=
  ⟨_, _, _, rfl, ex_r0, rfl, ex_r1, rfl, ex_ok0, ex_ok0.rel 0 0 2, (ex_ok0.rel 0 0 2).rel 1 0 9, ex_next⟩
set_option maxHeartbeats 3200000 in
theorem alive15 (w : World) (a : Nat → Addr) (E : Eg w a) : Calls Tryd.prog 8 #[] w fun e w' => e = .returned (.bool true) ∧ Below w.heap.size w w' := by
  obtain ⟨s0, s1, s2, e0, r0, e1, r1, e2, o0, o1, o2, hn⟩ := ex_all
  have HNEW : Hid (Calls Tryd.prog 9 #[.int .i64 1, .slice (some ⟨w.heap.size, 0, none⟩) 2 2] (w.alloc (.cells #[.int .i64 2, .int .i64 10, .int .i64 10, .int .i64 0, .int .i64 3, .int .i64 20, .int .i64 5, .int .i64 3] 37)) fun e w' => ∃ b tv, e = .returned (.tuple #[.pointer (some ⟨b, 0, none⟩), .nilIface]) ∧ Hid (GB (w.heap.size + 1) w' b 1 tv (.slice none 0 0) s0) ∧ Hid (Below w.heap.size w w')) := mkHid (by
    refine (new_ok _ _ 1 ex15 (tks_two w (2, 10, 10, 0) (3, 20, 5, 3)) ex_ok).mono ?_
    rintro e w1 ⟨b, tv, rfl, hg, hb⟩
    have hz : (w.alloc (.cells #[.int .i64 2, .int .i64 10, .int .i64 10, .int .i64 0, .int .i64 3, .int .i64 20, .int .i64 5, .int .i64 3] 37)).heap.size = w.heap.size + 1 := by simp
    rw [e0, ← hz]
    exact ⟨b, tv, rfl, hg, bt (ba (Below.refl _ w) _) hb⟩)
  have HRA : Hid (∀ w1 b tv jv, GB (w.heap.size + 1) w1 b 1 tv jv s0 → Below w.heap.size w w1 → Calls Tryd.prog 13 #[.pointer (some ⟨b, 0, none⟩), .int .i64 0, .int .i64 0, .int .i64 2] w1 fun e w' => e = .returned .nilIface ∧ ∃ jv', Hid (GB (w.heap.size + 1) w' b 1 tv jv' s1) ∧ Hid (Below w.heap.size w w')) := mkHid (fun w1 b tv jv hg hb => by
    refine (release_is _ w1 b 1 tv jv s0 0 0 2 a hg o0 (E.late hb)).mono ?_
    rintro e w2 ⟨he, jv2, hg2, hk2, _⟩
    rw [r0] at he
    rw [e1]
    exact ⟨he, jv2, hg2, hb.trans ((hg.bel hk2).mono (by omega))⟩)
  have HRB : Hid (∀ w1 b tv jv, GB (w.heap.size + 1) w1 b 1 tv jv s1 → Below w.heap.size w w1 → Calls Tryd.prog 13 #[.pointer (some ⟨b, 0, none⟩), .int .i64 1, .int .i64 0, .int .i64 9] w1 fun e w' => e = .returned .nilIface ∧ ∃ jv', Hid (GB (w.heap.size + 1) w' b 1 tv jv' s2) ∧ Hid (Below w.heap.size w w')) := mkHid (fun w1 b tv jv hg hb => by
    refine (release_is _ w1 b 1 tv jv s1 1 0 9 a hg o1 (E.late hb)).mono ?_
    rintro e w2 ⟨he, jv2, hg2, hk2, _⟩
    rw [r1] at he
    rw [e2]
    exact ⟨he, jv2, hg2, hb.trans ((hg.bel hk2).mono (by omega))⟩)
  have HNX : Hid (∀ w1 b tv jv, GB (w.heap.size + 1) w1 b 1 tv jv s2 → Calls Tryd.prog 18 #[.pointer (some ⟨b, 0, none⟩)] w1 fun e w' => e = .returned (.tuple #[.agg #[.int .i64 1, .int .i64 0, .int .i64 5, .int .i64 3, .int .i64 0], .bool true]) ∧ Below w1.heap.size w1 w') := mkHid (fun w1 b tv jv hg => next_some _ w1 b 1 tv jv s2 _ hg o2 hn)
  clear e0 e1 e2 r0 r1 o0 o1 o2 hn E
  go_enter Tryd.func8, Tryd.ntmps8
  go_wp2_with (first | (go_at_call 9; refine HNEW.out.mono ?_; rintro e w1 ⟨b, tv, rfl, HG1, HB1⟩) | (go_at_call 13; (with_reducible refine (HRA.out w1 b tv _ HG1.out HB1.out).mono ?_); rintro e w2 ⟨rfl, jv2, HG2, HB2⟩) | (go_at_call 13; (with_reducible refine (HRB.out w2 b tv jv2 HG2.out HB2.out).mono ?_); rintro e w3 ⟨rfl, jv3, HG3, HB3⟩) | (go_at_call 18; refine (HNX.out w3 b tv jv3 HG3.out).mono ?_; rintro e w4 ⟨rfl, b4⟩; have HB4 := mkHid (bt HB3.out b4); clear b4))
  go_ret
  exact ⟨rfl, ba HB4.out _⟩
/-- A call of a law's script. -/
structure Op5 where
  kd : Int
  wh : Int
  tk : Int
  nw : Int
  tc : Int
def co (o : Op5) : List Value := [.int .i64 o.kd, .int .i64 o.wh, .int .i64 o.tk, .int .i64 o.nw, .int .i64 o.tc]
theorem co_len (o : Op5) : (co o).length = 5 := rfl
theorem oneo (o : Op5) : ∀ u ∈ co o, u.oneCell' = true := by
  intro u hx
  simp only [co, List.mem_cons, List.not_mem_nil, or_false] at hx
  rcases hx with rfl | rfl | rfl | rfl | rfl <;> rfl
abbrev Ops (w : World) (v : Value) (os : List Op5) : Prop := RowIn 5 co w v os
theorem Ops.cells {w w' : World} {a : Option Addr} {l cap : Nat} {os : List Op5} (h : Ops w (.slice a l cap) os) (hb : Below w.heap.size w w') (i : Nat) (hi : i < os.length) : ∃ b off o, a = some ⟨b, off, none⟩ ∧ os[i]? = some o ∧ w'.cell? ⟨b, off + i * 5, none⟩ = some (.int .i64 o.kd) ∧ w'.cell? ⟨b, off + i * 5 + 1, none⟩ = some (.int .i64 o.wh) ∧ w'.cell? ⟨b, off + i * 5 + 2, none⟩ = some (.int .i64 o.tk) ∧ w'.cell? ⟨b, off + i * 5 + 3, none⟩ = some (.int .i64 o.nw) ∧ w'.cell? ⟨b, off + i * 5 + 4, none⟩ = some (.int .i64 o.tc) := by
  obtain ⟨b, off, o, rfl, ho, hc⟩ := RowIn.at h hb i hi
  exact ⟨b, off, o, rfl, ho, hc 0 _ (by omega) rfl, hc 1 _ (by omega) rfl, hc 2 _ (by omega) rfl, hc 3 _ (by omega) rfl, hc 4 _ (by omega) rfl⟩
abbrev vC (p : Int) (tv sv : Value) : Value := .agg #[.int .i64 p, tv, sv]
/-- A case in its block. -/
def CB (w : World) (R : Nat) (p : Int) (tv sv : Value) : Prop := w.heap[R]? = some (.cells #[.int .i64 p, tv, sv] 25 (0, 0))
theorem CB.c0 {w : World} {R : Nat} {p : Int} {tv sv : Value} (h : CB w R p tv sv) : w.cell? ⟨R, 0, none⟩ = some (.int .i64 p) := cell_of_block (i := 0) h rfl
theorem CB.c1 {w : World} {R : Nat} {p : Int} {tv sv : Value} (h : CB w R p tv sv) : w.cell? ⟨R, 1, none⟩ = some tv := cell_of_block (i := 1) h rfl
theorem CB.c2 {w : World} {R : Nat} {p : Int} {tv sv : Value} (h : CB w R p tv sv) : w.cell? ⟨R, 2, none⟩ = some sv := cell_of_block (i := 2) h rfl
theorem CB.lt {w : World} {R : Nat} {p : Int} {tv sv : Value} (h : CB w R p tv sv) : R < w.heap.size := lt_of_heap h
theorem cb_new (w : World) (p : Int) (tv sv : Value) : CB (w.alloc (.cells #[.int .i64 p, tv, sv] 25)) w.heap.size p tv sv := heap_alloc_new w _
theorem CB.late {w w' : World} {R : Nat} {p : Int} {tv sv : Value} (h : CB w R p tv sv) (hb : Below w.heap.size w w') : CB w' R p tv sv := blk_late h hb
/-- A case and a guest in a law's memory. -/
structure LG (W w : World) (R B b : Nat) (p : Int) (tv sv xv jv : Value) (ts : List Tk) (s : Gt) : Prop where
  bel : Below W.heap.size W w
  rw : W.heap.size ≤ R
  rb : R < B
  cb : CB w R p tv sv
  gb : GB B w b p xv jv s
  ok : s.Ok p
  e : s.ts = ts
theorem LG.late {W w w' : World} {R B b : Nat} {p : Int} {tv sv xv jv : Value} {ts : List Tk} {s : Gt} (h : LG W w R B b p tv sv xv jv ts s) (hb : Below w.heap.size w w') : LG W w' R B b p tv sv xv jv ts s :=
  ⟨bt h.bel hb, h.rw, h.rb, h.cb.late hb, h.gb.below hb, h.ok, h.e⟩
theorem LG.alloc {W w : World} {R B b : Nat} {p : Int} {tv sv xv jv : Value} {ts : List Tk} {s : Gt} (h : LG W w R B b p tv sv xv jv ts s) (o : Obj) : LG W (w.alloc o) R B b p tv sv xv jv ts s := h.late (ba (Below.refl _ w) o)
theorem LG.drewN {W w : World} {R B b : Nat} {p : Int} {tv sv xv jv : Value} {ts : List Tk} {s : Gt} (h : LG W w R B b p tv sv xv jv ts s) (n : Nat) : LG W (w.drewN n) R B b p tv sv xv jv ts s := ⟨below_drewN h.bel n, h.rw, h.rb, h.cb, h.gb.drewN n, h.ok, h.e⟩
/-- Another block is written. -/
theorem LG.off {W w w' : World} {R B b K : Nat} {p : Int} {tv sv xv jv : Value} {ts : List Tk} {s : Gt} (h : LG W w R B b p tv sv xv jv ts s) (hk : Kept (fun k => k = K) w w') (hK : R < K) (hn : ¬ Ft xv jv b K) : LG W w' R B b p tv sv xv jv ts s :=
  ⟨h.bel.trans (hk.below (fun k e => by have := h.rw; omega) h.bel.size), h.rw, h.rb, (hk.block R h.cb.lt (by omega)).trans h.cb, h.gb.kept hk (fun k e f => hn (e ▸ f)), h.ok, h.e⟩
/-- A call on the guest. -/
theorem LG.call {W w w' : World} {R B b : Nat} {p : Int} {tv sv xv jv jv' : Value} {ts : List Tk} {s s' : Gt} (h : LG W w R B b p tv sv xv jv ts s) (hg : GB B w' b p xv jv' s') (hk : Kept (Ft xv jv b) w w') (ok : s'.Ok p) (e : s'.ts = s.ts) : LG W w' R B b p tv sv xv jv' ts s' :=
  ⟨h.bel.trans ((h.gb.bel hk).mono (by have := h.rw; have := h.rb; omega)), h.rw, h.rb, (hk.block R h.cb.lt (fun f => by have := (h.gb.foot f).1; have := h.rb; omega)).trans h.cb, hg, ok, e.trans h.e⟩
/-- A box beside the guest stays. -/
theorem LG.box {W w w' : World} {R B b K : Nat} {p : Int} {tv sv xv jv jv' : Value} {ts : List Tk} {s : Gt} {o : Obj} (_ : LG W w R B b p tv sv xv jv ts s) (hk : Kept (Ft xv jv b) w w') (hv : ∀ k, jv'.ownBlock = some k → jv.ownBlock = some k ∨ w.heap.size ≤ k) (hK : w.heap[K]? = some o) (hn : ¬ Ft xv jv b K) : w'.heap[K]? = some o ∧ ¬ Ft xv jv' b K := by
  have hl := lt_of_heap hK
  refine ⟨(hk.block K hl hn).trans hK, fun f => ?_⟩
  rcases f with f | f | f
  · exact hn (.inl f)
  · exact hn (.inr (.inl f))
  · rcases hv K f with q | q
    · exact hn (.inr (.inr q))
    · omega
end Go.Proofs.YthncfkeoephipaaDoor
