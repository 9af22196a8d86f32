import Derived.Test.YtjhekemgcmhjoabDoorTrF
import Derived.Test.YtjhekemgcmhjoabDoorOpenOd
import Derived.Test.YtjhekemgcmhjoabDoorStoreBx
import Derived.Test.YtjhekemgcmhjoabDoorTrM
/- A tree in its box, which orders write over. -/
namespace Go.Proofs.YtjhekemgcmhjoabDoor
open Go.ChangeShapes Go.WideShapes Go.ChangeAt Go.RowKit
set_option maxRecDepth 100000

theorem eight_at {w : World} {b o : Nat} {t : Op} (h : ∀ r u, r < 8 → (c8 t)[r]? = some u → w.cell? ⟨b, o + r, none⟩ = some u) : w.cell? ⟨b, o, none⟩ = some (.int .i64 t.1.ki) ∧ w.cell? ⟨b, o + 1, none⟩ = some (.int .i64 t.1.id) ∧ w.cell? ⟨b, o + 2, none⟩ = some (.int .i64 t.1.sv.1) ∧ w.cell? ⟨b, o + 3, none⟩ = some (.int .i64 t.1.sv.2.1) ∧ w.cell? ⟨b, o + 4, none⟩ = some (.int .i64 t.1.sv.2.2) ∧ w.cell? ⟨b, o + 5, none⟩ = some (.int .i64 t.1.po) ∧ w.cell? ⟨b, o + 6, none⟩ = some (tvO t) ∧ w.cell? ⟨b, o + 7, none⟩ = some (.int .i64 t.1.tm) :=
  ⟨h 0 _ (by omega) rfl, h 1 _ (by omega) rfl, h 2 _ (by omega) rfl, h 3 _ (by omega) rfl, h 4 _ (by omega) rfl, h 5 _ (by omega) rfl, h 6 _ (by omega) rfl, h 7 _ (by omega) rfl⟩
theorem tro_nil (b : Nat) (w : World) : TrO b w (.slice none 0 0) (.slice none 0 0) [] [] :=
  ⟨World.ownsRow_nil _ _ _ _, fun t ht => by simp at ht, World.ownsRow_nil _ _ _ _, fun t ht => by simp at ht, fun t ht => by simp at ht, fun k hk => by simp [Value.ownBlock] at hk⟩
theorem own_low {w : World} {b c n0 : Nat} {e : TypeId} {v : Value} {n : Nat} {xs : List Value} (h : w.ownsRow b e n0 v n xs) (hc : c ≤ b) : w.ownsRow c e n0 v n xs := by
  refine ⟨h.1, ?_⟩
  rcases h.2 with h1 | ⟨g, cap, cur, e1, hb, rest⟩
  · exact .inl h1
  · exact .inr ⟨g, cap, cur, e1, by omega, rest⟩
theorem TrO.wider {b c : Nat} {w : World} {nv gv : Value} {ps : List Np} {gs : List Gh} (h : TrO b w nv gv ps gs) (hc : c ≤ b) : TrO c w nv gv ps gs :=
  ⟨own_low h.nown hc, fun t ht => own_low (h.tk t ht) hc, own_low h.gown hc, h.tn, h.tg, h.ng⟩
theorem own_off {w : World} {b n0 g : Nat} {e : TypeId} {v : Value} {n : Nat} {xs : List Value} (h : w.ownsRow b e n0 v n xs) (hg : g < b) : v.ownBlock ≠ some g := by
  intro hv
  have := (h.lt g hv).1
  omega
theorem TrO.off {b g : Nat} {w : World} {nv gv : Value} {ps : List Np} {gs : List Gh} (h : TrO b w nv gv ps gs) (hg : g < b) : nv.ownBlock ≠ some g ∧ gv.ownBlock ≠ some g ∧ ∀ t ∈ ps, (tvN t).ownBlock ≠ some g :=
  ⟨own_off h.nown hg, own_off h.gown hg, fun t ht => own_off (h.tk t ht) hg⟩
/-- A tree in a box of its own, its rows behind the box, in a law's memory. -/
structure BX (W0 : World) (g : Nat) (w : World) (nv gv : Value) (ps : List Np) (t : Tr) : Prop where
  bel : Below W0.heap.size W0 w
  lg : W0.heap.size ≤ g
  own : TrO (g + 1) w nv gv ps t.gs
  e : nds ps = t.ns
  blk : w.heap[g]? = some (.cells #[nv, gv, .int .i64 t.last, .int .i64 t.now] 27 (0, 0))
theorem BX.hold {W0 w w' : World} {g : Nat} {nv gv : Value} {ps : List Np} {t : Tr} (h : BX W0 g w nv gv ps t) (hb : Below w.heap.size w w') : BX W0 g w' nv gv ps t :=
  ⟨bt h.bel hb, h.lg, h.own.below hb, h.e, (hb.block g (lt_of_heap h.blk)).trans h.blk⟩
theorem BX.store {W0 w w2 w3 : World} {g B : Nat} {nv gv nv2 gv2 : Value} {ps ps2 : List Np} {t u : Tr} (h : BX W0 g w nv gv ps t) (hb : Below w.heap.size w w2) (ho : TrO B w2 nv2 gv2 ps2 u.gs) (hB : w.heap.size ≤ B) (he : nds ps2 = u.ns)
    (h3 : w3.heap[g]? = some (.cells #[nv2, gv2, .int .i64 u.last, .int .i64 u.now] 27 (0, 0))) (hk : Kept (fun k => k = g) w2 w3) : BX W0 g w3 nv2 gv2 ps2 u ∧ TrO (g + 1) w3 nv gv ps t.gs := by
  have hlt := lt_of_heap h.blk
  have hl := h.lg
  refine ⟨⟨(bt h.bel hb).trans (hk.below (fun k hk => by omega) (bt h.bel hb).size), h.lg, (ho.wider (by omega)).kept hk (fun k hk => .inl ?_), he, h3⟩, (h.own.below hb).kept hk (fun k hk => .inl ?_)⟩
  · subst hk; exact ho.off (by omega)
  · subst hk; exact h.own.off (by omega)
theorem one_tr (na ga : Option Addr) (n nc m gc : Nat) (l w : Int) : (#[Value.slice na n nc, .slice ga m gc, .int .i64 l, .int .i64 w].all (·.oneCell')) = true := by simp [Value.oneCell']
theorem Tr.Sm.more {t : Tr} {k l : Nat} (h : t.Sm k) (hl : k ≤ l) : t.Sm l := ⟨by have := h.n; omega, by have := h.g; omega, by have := h.l; omega, h.s⟩
/-- What holds of a tree that orders make. -/
def Tr.Ok (t : Tr) (k : Nat) : Prop := t.Good ∧ t.Liv ∧ t.Sm k
theorem ok_zero : Tr.Ok t0 0 := ⟨Tr.Good.zero, fun g hg => by simp at hg, ⟨by simp, by simp, by simp, fun x hx => by simp at hx⟩⟩
theorem Tr.Ok.app {A : Ops} {t : Tr} {k : Nat} (h : t.Ok k) (o : Od) : (t.app A o).1.Ok (k + 1) := ⟨(app_ap A t o).good h.1, (app_ap A t o).liv h.1 h.2.1, (app_ap A t o).sm h.2.2⟩
theorem Tr.Ok.more {t : Tr} {k l : Nat} (h : t.Ok k) (hl : k ≤ l) : t.Ok l := ⟨h.1, h.2.1, h.2.2.more hl⟩
/-- Apply of a tree in its box. -/
theorem apply_bx {A : Ops} {W0 w W : World} {g : Nat} {nv gv : Value} {ps : List Np} {t : Tr} {k : Nat} {x : Op} {a : Nat → Addr} (h : BX W0 g w nv gv ps t) (hok : t.Ok k) (hk : k ≤ 100) (hW : Below w.heap.size w W) (E : Er6 W0 a) (ho : OpW W0 x) (hs : smallO x) :
    Calls Tryd.prog 5 #[vTr nv gv t, vOp x] W (ApP W (t.app A x.1)) := by
  obtain ⟨o, oa, oc⟩ := x
  have h8 : t.Sm 800 := hok.2.2.more (by omega)
  exact apply_is A W t nv gv ps o oa oc a ((h.own.below hW).trw (h8.more (by omega)) h.e) h8 hok.1.now0 hok.1.now1 hok.1.last0 (E.late (bt h.bel hW)) (ho.ts.below (bt h.bel hW)) ho.cap hs
end Go.Proofs.YtjhekemgcmhjoabDoor
