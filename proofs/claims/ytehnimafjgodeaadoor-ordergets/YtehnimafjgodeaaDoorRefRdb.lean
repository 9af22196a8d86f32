/- The document's reader: Bytes. -/
import Derived.Test.YtehnimafjgodeaaDoorRefRdr
import Derived.Deep.RegionLaw
namespace Go.Proofs.YtehnimafjgodeaaDoor
open Go.ChangeShapes Go.WideShapes Go.ChangeAt Go.RowKit
set_option maxRecDepth 100000

theorem step_append_src {P : Program} {ops : Array Oper} {o : Oper} {a : Act} {w : World} {K : Act → World → Prop} {Q : Exit → Act → World → Prop} {E : Prop} (hgd : o.guard = none) (sl x : Operand) (t tx : TypeId)
    (hop : o.op = .call { callee := .builtin .append, args := #[sl, x], argTypes := #[t, tx] })
    (base : Nat) (e : TypeId) (i : TypeInfo) (ht : P.underlying t = some (.slice e)) (hi : P.info? e = some i) (hz : i.zero = some (.int .u8 0)) (hsize : i.size = 1) (hby : i.bytes = 1)
    (v : Value) (n : Nat) (xs : List Value) (hs : a.eval sl = v) (hown : w.ownsRow base e 1 v n xs) (xv : Value) (m : Nat) (news : List Value) (hx : a.eval x = xv) (hsrc : Src P 1 tx xv m news w)
    (h63 : n + m ≤ maxLen) (hbytes : n + m ≤ 140737488355328) (hbase : base ≤ w.heap.size)
    (h : ∀ v' w', w'.ownsRow base e 1 v' (n + m) (xs ++ news) → w.grownBy w' v.ownBlock → (v'.ownBlock = v.ownBlock ∨ v'.ownBlock = some w.heap.size) → K (a.put o.dst v') w') :
    if Region.wanted o (yielded ops a.tmps) = true then Oper.wp P o a w K Q else E := by
  have hw : Region.wanted o (yielded ops a.tmps) = true := by simp [Region.wanted, hgd]
  rw [if_pos hw]
  obtain ⟨v', w', hr, h2, h3, h4⟩ := run_append_own_src (P := P) w base t tx o.type e i ht hi hz hsize hby v n xs hown xv m news hsrc h63 hbytes hbase
  unfold Oper.wp execOp
  simp only [hop, resolve, invoke, builtin, Sem.run_bind, Sem.run_pure, Result.andThen_ok, List.map_toArray, List.map_cons, List.map_nil, hs, hx, hr]
  exact h v' w' h2 h3 h4
set_option maxHeartbeats 6400000 in
theorem refrbytes_none (w : World) (m : Nat) (v : Value) (bs : List Int) (i : Nat) (most : Int) (hM : MR w m v i) (h : Rd w v bs) (hi : i ≤ bs.length) (hl : (bs.length : Int) ≤ 140737488355328) (hno : ∀ (N : Nat) (r : List Int), (N : Int) ≤ 9223372036854775807 → bs.drop i ≠ enc N ++ r) :
    Calls Tryd.prog 53 #[.pointer (some ⟨m, 0, none⟩), .int .i64 most] w fun e w' => e = .returned (.tuple #[.slice none 0 0, .int .i64 3]) ∧ Below w.heap.size w w' := by
  have c0' : w.cell? ⟨m, 0, none⟩ = some v := cell_of_block hM rfl
  have c1' : w.cell? ⟨m, 1, none⟩ = some (.int .i64 (i : Int)) := cell_of_block hM rfl
  have HH := mkHid (And.intro h (And.intro hi (And.intro hl hno)))
  clear hM h hi hl hno
  go_enter Tryd.func53, Tryd.ntmps53
  go_wp2
  go_region_with (first | (go_at_call 66; refine (refrd_none _ v bs i (HH.out.1.later (Below.refl _ _).drew) HH.out.2.1 HH.out.2.2.1 HH.out.2.2.2).mono ?_; rintro e w2 ⟨n, nx, rfl, hb2⟩; have hb2' : Below w.heap.size w w2 := ((Below.refl _ _).drew).trans hb2; clear hb2))
  all_goals go_wp2
  all_goals go_ret2
  all_goals exact ⟨rfl, hb2'⟩
set_option maxHeartbeats 6400000 in
theorem refrbytes_much (w : World) (m : Nat) (v : Value) (bs : List Int) (i N : Nat) (r : List Int) (most : Int) (hM : MR w m v i) (h : Rd w v bs) (hi : i ≤ bs.length) (hl : (bs.length : Int) ≤ 140737488355328) (hN : (N : Int) ≤ 9223372036854775807) (he : bs.drop i = enc N ++ r) (hmost : most < (N : Int)) :
    Calls Tryd.prog 53 #[.pointer (some ⟨m, 0, none⟩), .int .i64 most] w fun e w' => e = .returned (.tuple #[.slice none 0 0, .int .i64 3]) ∧ Below w.heap.size w w' := by
  have c0' : w.cell? ⟨m, 0, none⟩ = some v := cell_of_block hM rfl
  have c1' : w.cell? ⟨m, 1, none⟩ = some (.int .i64 (i : Int)) := cell_of_block hM rfl
  have HH := mkHid (And.intro h (And.intro hi (And.intro hl (And.intro hN he))))
  clear hM h hi hl he
  go_enter Tryd.func53, Tryd.ntmps53
  go_wp2
  go_region_with (first | (go_at_call 66; refine (refrd_yes _ v bs i N r (HH.out.1.later (Below.refl _ _).drew) HH.out.2.1 HH.out.2.2.1 HH.out.2.2.2.1 HH.out.2.2.2.2).mono ?_; rintro e w2 ⟨rfl, hb2⟩; have hb2' : Below w.heap.size w w2 := ((Below.refl _ _).drew).trans hb2; clear hb2))
  all_goals go_wp2
  all_goals go_ret2
  all_goals exact ⟨rfl, hb2'⟩
set_option maxHeartbeats 6400000 in
theorem refrbytes_short (w : World) (m : Nat) (v : Value) (bs : List Int) (i N : Nat) (r : List Int) (most : Int) (hM : MR w m v i) (h : Rd w v bs) (hi : i ≤ bs.length) (hl : (bs.length : Int) ≤ 140737488355328) (hN : (N : Int) ≤ 9223372036854775807) (he : bs.drop i = enc N ++ r) (hmost : (N : Int) ≤ most) (hsh : r.length < N) :
    Calls Tryd.prog 53 #[.pointer (some ⟨m, 0, none⟩), .int .i64 most] w fun e w' => e = .returned (.tuple #[.slice none 0 0, .int .i64 3]) ∧ Below w.heap.size w w' := by
  obtain ⟨sa, sc, rfl⟩ : ∃ a c, v = .slice a bs.length c := h.2.imp fun a h => h.imp fun c h => h.1
  have c0' : w.cell? ⟨m, 0, none⟩ = some (.slice sa bs.length sc) := cell_of_block hM rfl
  have c1' : w.cell? ⟨m, 1, none⟩ = some (.int .i64 (i : Int)) := cell_of_block hM rfl
  obtain ⟨L, hL⟩ : ∃ L, L = (enc N).length := ⟨_, rfl⟩
  have hlen : bs.length = i + L + r.length := by
    have := congrArg List.length he
    rw [List.length_drop, List.length_append] at this
    omega
  have hgt : (bs.length : Int) - ((i : Int) + (L : Int)) < (N : Int) := by omega
  have hge0 : (i : Int) + (L : Int) ≤ (bs.length : Int) := by omega
  have HH := mkHid (And.intro h (And.intro hi (And.intro hl (And.intro hN (And.intro he hM)))))
  have HL := mkHid hL
  clear hM h hi he hL hlen hsh
  go_enter Tryd.func53, Tryd.ntmps53
  go_wp2
  go_region_with (first | (go_at_call 66; refine (refrd_yes _ _ bs i N r (HH.out.1.later (Below.refl _ _).drew) HH.out.2.1 HH.out.2.2.1 HH.out.2.2.2.1 HH.out.2.2.2.2.1).mono ?_; rintro e w2 ⟨rfl, hb2⟩; rw [← HL.out]; have hb2' : Below w.heap.size w w2 := ((Below.refl _ _).drew).trans hb2; have d0 : w2.cell? ⟨m, 0, none⟩ = some (.slice sa bs.length sc) := cell_of_block (HH.out.2.2.2.2.2.late hb2') rfl; clear hb2))
  all_goals go_wp2
  all_goals go_ret2
  all_goals exact ⟨rfl, hb2'⟩
end Go.Proofs.YtehnimafjgodeaaDoor
