import Derived.Test.YtaiklaipdocdmaaDoorRrX
import Derived.Deep.RegionLaw
import Derived.Test.YtaiklaipdocdmaaDoorPiece
import Derived.Deep.RegionHeld3
/- The document's reader: Bytes. -/
namespace Go.Proofs.YtaiklaipdocdmaaDoor
open Go.ChangeShapes Go.WideShapes Go.ChangeAt Go.RowKit
set_option maxRecDepth 100000

theorem step_append_src {P : Program} {ops : Array Oper} {o : Oper} {a : Act} {w : World} {K : Act → World → Prop} {Q : Exit → Act → World → Prop} {E : Prop} (hgd : o.guard = none) (sl x : Operand) (t tx : TypeId)
    (hop : o.op = .call { callee := .builtin .append, args := #[sl, x], argTypes := #[t, tx] })
    (base : Nat) (e : TypeId) (i : TypeInfo) (ht : P.underlying t = some (.slice e)) (hi : P.info? e = some i) (hz : i.zero = some (.int .u8 0)) (hsize : i.size = 1) (hby : i.bytes = 1)
    (v : Value) (n : Nat) (xs : List Value) (hs : a.eval sl = v) (hown : w.ownsRow base e 1 v n xs) (xv : Value) (m : Nat) (news : List Value) (hx : a.eval x = xv) (hsrc : Src P 1 tx xv m news w)
    (h63 : n + m ≤ maxLen) (hbytes : n + m ≤ 140737488355328) (hbase : base ≤ w.heap.size)
    (h : ∀ v' w', w'.ownsRow base e 1 v' (n + m) (xs ++ news) → w.grownBy w' v.ownBlock → (v'.ownBlock = v.ownBlock ∨ v'.ownBlock = some w.heap.size) → K (a.put o.dst v') w') :
    if Region.wanted o (yielded ops a.tmps) = true then Oper.wp P o a w K Q else E := by
  have hw : Region.wanted o (yielded ops a.tmps) = true := by simp [Region.wanted, hgd]
  rw [if_pos hw]
  obtain ⟨v', w', hr, h2, h3, h4⟩ := run_append_own_src (P := P) w base t tx o.type e i ht hi hz hsize hby v n xs hown xv m news hsrc h63 hbytes hbase
  unfold Oper.wp execOp
  simp only [hop, resolve, invoke, builtin, Sem.run_bind, Sem.run_pure, Result.andThen_ok, List.map_toArray, List.map_cons, List.map_nil, hs, hx, hr]
  exact h v' w' h2 h3 h4
set_option maxHeartbeats 6400000 in
theorem refrbytes_none (w : World) (m : Nat) (v : Value) (bs : List Int) (i : Nat) (most : Int) (hM : MR w m v i) (h : Rd w v bs) (hi : i ≤ bs.length) (hl : (bs.length : Int) ≤ 140737488355328) (hno : ∀ (N : Nat) (r : List Int), (N : Int) ≤ 9223372036854775807 → bs.drop i ≠ enc N ++ r) :
    Calls Tryd.prog 62 #[.pointer (some ⟨m, 0, none⟩), .int .i64 most] w fun e w' => e = .returned (.tuple #[.slice none 0 0, .int .i64 3]) ∧ Below w.heap.size w w' := by
  have c0' : w.cell? ⟨m, 0, none⟩ = some v := cell_of_block hM rfl
  have c1' : w.cell? ⟨m, 1, none⟩ = some (.int .i64 (i : Int)) := cell_of_block hM rfl
  have HH := mkHid (And.intro h (And.intro hi (And.intro hl hno)))
  clear hM h hi hl hno
  go_enter Tryd.func62, Tryd.ntmps62
  go_wp2
  go_region_with (first | (go_at_call 87; refine (refrd_none _ v bs i (HH.out.1.later (Below.refl _ _).drew) HH.out.2.1 HH.out.2.2.1 HH.out.2.2.2).mono ?_; rintro e w2 ⟨n, nx, rfl, hb2⟩; have hb2' : Below w.heap.size w w2 := ((Below.refl _ _).drew).trans hb2; clear hb2))
  all_goals go_wp2
  all_goals go_ret2
  all_goals exact ⟨rfl, hb2'⟩
set_option maxHeartbeats 6400000 in
theorem refrbytes_much (w : World) (m : Nat) (v : Value) (bs : List Int) (i N : Nat) (r : List Int) (most : Int) (hM : MR w m v i) (h : Rd w v bs) (hi : i ≤ bs.length) (hl : (bs.length : Int) ≤ 140737488355328) (hN : (N : Int) ≤ 9223372036854775807) (he : bs.drop i = enc N ++ r) (hmost : most < (N : Int)) :
    Calls Tryd.prog 62 #[.pointer (some ⟨m, 0, none⟩), .int .i64 most] w fun e w' => e = .returned (.tuple #[.slice none 0 0, .int .i64 3]) ∧ Below w.heap.size w w' := by
  have c0' : w.cell? ⟨m, 0, none⟩ = some v := cell_of_block hM rfl
  have c1' : w.cell? ⟨m, 1, none⟩ = some (.int .i64 (i : Int)) := cell_of_block hM rfl
  have HH := mkHid (And.intro h (And.intro hi (And.intro hl (And.intro hN he))))
  clear hM h hi hl he
  go_enter Tryd.func62, Tryd.ntmps62
  go_wp2
  go_region_with (first | (go_at_call 87; refine (refrd_yes _ v bs i N r (HH.out.1.later (Below.refl _ _).drew) HH.out.2.1 HH.out.2.2.1 HH.out.2.2.2.1 HH.out.2.2.2.2).mono ?_; rintro e w2 ⟨rfl, hb2⟩; have hb2' : Below w.heap.size w w2 := ((Below.refl _ _).drew).trans hb2; clear hb2))
  all_goals go_wp2
  all_goals go_ret2
  all_goals exact ⟨rfl, hb2'⟩
set_option maxHeartbeats 6400000 in
theorem refrbytes_short (w : World) (m : Nat) (v : Value) (bs : List Int) (i N : Nat) (r : List Int) (most : Int) (hM : MR w m v i) (h : Rd w v bs) (hi : i ≤ bs.length) (hl : (bs.length : Int) ≤ 140737488355328) (hN : (N : Int) ≤ 9223372036854775807) (he : bs.drop i = enc N ++ r) (hmost : (N : Int) ≤ most) (hsh : r.length < N) :
    Calls Tryd.prog 62 #[.pointer (some ⟨m, 0, none⟩), .int .i64 most] w fun e w' => e = .returned (.tuple #[.slice none 0 0, .int .i64 3]) ∧ Below w.heap.size w w' := by
  obtain ⟨sa, sc, rfl⟩ : ∃ a c, v = .slice a bs.length c := h.2.imp fun a h => h.imp fun c h => h.1
  have c0' : w.cell? ⟨m, 0, none⟩ = some (.slice sa bs.length sc) := cell_of_block hM rfl
  have c1' : w.cell? ⟨m, 1, none⟩ = some (.int .i64 (i : Int)) := cell_of_block hM rfl
  obtain ⟨L, hL⟩ : ∃ L, L = (enc N).length := ⟨_, rfl⟩
  have hlen : bs.length = i + L + r.length := by
    have := congrArg List.length he
    rw [List.length_drop, List.length_append] at this
    omega
  have hgt : (bs.length : Int) - ((i : Int) + (L : Int)) < (N : Int) := by omega
  have hge0 : (i : Int) + (L : Int) ≤ (bs.length : Int) := by omega
  have HH := mkHid (And.intro h (And.intro hi (And.intro hl (And.intro hN (And.intro he hM)))))
  have HL := mkHid hL
  clear hM h hi he hL hlen hsh
  go_enter Tryd.func62, Tryd.ntmps62
  go_wp2
  go_region_with (first | (go_at_call 87; refine (refrd_yes _ _ bs i N r (HH.out.1.later (Below.refl _ _).drew) HH.out.2.1 HH.out.2.2.1 HH.out.2.2.2.1 HH.out.2.2.2.2.1).mono ?_; rintro e w2 ⟨rfl, hb2⟩; rw [← HL.out]; have hb2' : Below w.heap.size w w2 := ((Below.refl _ _).drew).trans hb2; have d0 : w2.cell? ⟨m, 0, none⟩ = some (.slice sa bs.length sc) := cell_of_block (HH.out.2.2.2.2.2.late hb2') rfl; clear hb2))
  all_goals go_wp2
  all_goals go_ret2
  all_goals exact ⟨rfl, hb2'⟩
end Go.Proofs.YtaiklaipdocdmaaDoor

/- The document's reader: Bytes, where it answers bytes. -/
namespace Go.Proofs.YtaiklaipdocdmaaDoor
open Go.ChangeShapes Go.WideShapes Go.ChangeAt Go.RowKit
set_option maxRecDepth 100000

theorem MR.to {w : World} {m : Nat} {v : Value} {i : Nat} (h : MR w m v i) (x : Int) (j : Nat) (hx : x = (j : Int)) : MR (w.setCell ⟨m, 1, none⟩ (.int .i64 x)) m v j := by
  unfold MR
  rw [heap_set h, hx]
  simp
set_option maxHeartbeats 6400000 in
theorem refrbytes_yes (w : World) (m : Nat) (v : Value) (bs : List Int) (i N : Nat) (r : List Int) (most : Int) (hM : MR w m v i) (h : Rd w v bs) (hvm : v.ownBlock ≠ some m) (hi : i ≤ bs.length) (hl : (bs.length : Int) ≤ 140737488355328) (hN : (N : Int) ≤ 9223372036854775807) (he : bs.drop i = enc N ++ r) (hmost : (N : Int) ≤ most) (hsh : N ≤ r.length) :
    Calls Tryd.prog 62 #[.pointer (some ⟨m, 0, none⟩), .int .i64 most] w fun e w' => ∃ v', e = .returned (.tuple #[v', .int .i64 0]) ∧ Rd w' v' (r.take N) ∧ MR w' m v (i + (enc N).length + N) ∧ Kept (fun j => j = m) w w' := by
  obtain ⟨i0, hi0, hz0, hz1, hz2⟩ := info_parts Tryd.info5
  obtain ⟨hp1, hp2⟩ := piece_parts he hi
  obtain ⟨v3, hs3, _⟩ := h.midN (f := i + (enc N).length) (t := i + (enc N).length + N) (by omega) (by omega)
  have HR3 : Hid (∀ W, Rd W v bs → Rd W v3 (r.take N)) := mkHid (fun W hW => by
    obtain ⟨v4, h4, hr⟩ := hW.midN (f := i + (enc N).length) (t := i + (enc N).length + N) (by omega) (by omega)
    have : v4 = v3 := by
      have a := hs3 W
      rw [h4 W] at a
      simpa using a
    rw [hp2, show i + (enc N).length + N - (i + (enc N).length) = N by omega] at hr
    rwa [this] at hr)
  obtain ⟨sa, sc, rfl⟩ : ∃ a c, v = .slice a bs.length c := h.2.imp fun a h => h.imp fun c h => h.1
  have c0' : w.cell? ⟨m, 0, none⟩ = some (.slice sa bs.length sc) := cell_of_block hM rfl
  have c1' : w.cell? ⟨m, 1, none⟩ = some (.int .i64 (i : Int)) := cell_of_block hM rfl
  have HTL : Hid ((r.take N).length = N) := mkHid (by rw [List.length_take]; omega)
  obtain ⟨L, hL⟩ : ∃ L, L = (enc N).length := ⟨_, rfl⟩
  have hle : (N : Int) ≤ (bs.length : Int) - ((i : Int) + (L : Int)) := by omega
  have hge0 : (i : Int) + (L : Int) ≤ (bs.length : Int) := by omega
  simp only [Int.natCast_add, ← hL] at hs3
  have HH := mkHid (And.intro h (And.intro hi (And.intro hl (And.intro hN (And.intro he hM)))))
  have HL := mkHid hL
  have HV := mkHid hvm
  have HS : Hid (0 + (r.take N).length ≤ maxLen ∧ 0 + (r.take N).length ≤ 140737488355328) := mkHid (by rw [HTL.out]; exact ⟨by unfold maxLen; omega, by omega⟩)
  clear hM h hi he hL hsh hp1 hp2 hvm
  go_enter Tryd.func62, Tryd.ntmps62
  go_wp2
  go_region_with (first | (go_at_call 87; refine (refrd_yes _ _ bs i N r (HH.out.1.later (Below.refl _ _).drew) HH.out.2.1 HH.out.2.2.1 HH.out.2.2.2.1 HH.out.2.2.2.2.1).mono ?_; rintro e w2 ⟨rfl, hb2⟩; rw [← HL.out]; have hb2' : Below w.heap.size w w2 := ((Below.refl _ _).drew).trans hb2; have hM2 := HH.out.2.2.2.2.2.late hb2'; have d0 : w2.cell? ⟨m, 0, none⟩ = some (.slice sa bs.length sc) := cell_of_block hM2 rfl; have d1 : w2.cell? ⟨m, 1, none⟩ = some (.int .i64 (i : Int)) := cell_of_block hM2 rfl; have d2 : w2.frozen? ⟨m, 1, none⟩ = false := frozen_of_block hM2; have HM2 := mkHid hM2; clear hb2 hM2))
  all_goals
    go_wp2
    have hM3 := HM2.out.to ((i : Int) + (L : Int) + (N : Int)) (i + (enc N).length + N) (by rw [HL.out]; omega)
    have hK3 : Kept (fun j => j = m) w (w2.setCell ⟨m, 1, none⟩ (.int .i64 ((i : Int) + (L : Int) + (N : Int)))) := (below_kept _ hb2').trans (Kept.setCell (F := fun j => j = m) w2 (p := ⟨m, 1, none⟩) rfl _) (fun j hj => .inl hj)
    have hR3 := HR3.out _ (HH.out.1.kept hK3 (fun k hk e => HV.out (by rw [hk, e])))
    clear d0 d1 d2 c0' c1'
    generalize w2.setCell ⟨m, 1, none⟩ (.int .i64 ((i : Int) + (L : Int) + (N : Int))) = W3 at *
    have e0 : W3.cell? ⟨m, 0, none⟩ = some (.slice sa bs.length sc) := cell_of_block hM3 rfl
    have e1 : W3.cell? ⟨m, 1, none⟩ = some (.int .i64 ((i : Int) + (L : Int) + (N : Int))) := by
      rw [cell_of_block hM3 rfl, HL.out]
      simp
    have hm3 := World.ownsRow_made (base := W3.heap.size) (e := 5) (size := 1) W3.drew #[] 0 (Nat.le_refl _) (by unfold maxLen; omega) rfl
    have HS4 := mkHid ((hR3.dr.alloc (.cells #[] 5)).src)
    have HR := mkHid hR3
    have HM3 := mkHid hM3
    have HK3 := mkHid hK3
    have HMM := mkHid hm3
    clear hm3 hR3 hM3 hK3
    go_region_held3 (fun w' => w'.cell? ⟨m, 0, none⟩ = some (.slice sa bs.length sc) ∧ w'.cell? ⟨m, 1, none⟩ = some (.int .i64 ((i : Int) + (L : Int) + (N : Int)))) (go_keep) (first | (refine step_append_src rfl (.tmp 46) (.tmp 56) 32 32 rfl W3.heap.size 5 i0 Tryd.underlying32 hi0 hz0 hz1 hz2 _ _ _ (by simp [Act.eval]) HMM.out v3 _ _ (by simp [Act.eval]) HS4.out HS.out.1 HS.out.2 (by simp) ?_; intro v5 w5 ho5 hg5 _; rw [Nat.zero_add, List.nil_append] at ho5; have HR5 := mkHid (Rd.of_owns HR.out.1 ho5); have hb5 := (((Below.refl W3.heap.size W3).drew).alloc (by simp) (.cells #[] 5)).grown hg5 (by simp) (fun k hk => (HMM.out.lt k hk).1); have HB5 := mkHid hb5; have g0 := cell_lat hb5 e0; have g1 := cell_lat hb5 e1; clear ho5 hg5 hb5))
    all_goals go_wp2
    all_goals go_ret2
    all_goals exact ⟨_, rfl, HR5.out, HM3.out.late HB5.out, HK3.out.trans (below_kept _ HB5.out) (fun j hj => .inl hj)⟩
end Go.Proofs.YtaiklaipdocdmaaDoor

