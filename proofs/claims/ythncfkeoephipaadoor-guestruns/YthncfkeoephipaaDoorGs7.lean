/- New. -/
import Derived.Test.YthncfkeoephipaaDoorGs6
import Derived.Test.YthncfkeoephipaaDoorGs2
namespace Go.Proofs.YthncfkeoephipaaDoor
open Go.ChangeShapes Go.WideShapes Go.ChangeAt Go.RowKit
attribute [local go_sem] World.cell?_alloc_some frozen_alloc_some

/-- A task is put behind the others. -/
theorem GB.pushT {base : Nat} {w w1 : World} {b : Nat} {p : Int} {tv jv v1 : Value} {s : Gt} {x : Tq} (h : GB base w b p tv jv s) (hown : w1.ownsRow base 67 5 v1 (s.xs.length + 1) (s.xs.flatMap cq ++ cq x)) (hg : w.grownBy w1 tv.ownBlock) (hat : v1.ownBlock = tv.ownBlock ∨ v1.ownBlock = some w.heap.size) :
    GB base (w1.setCell ⟨b, 0, none⟩ v1) b p v1 jv ⟨s.xs ++ [x], s.js⟩ := by
  have hk := Kept.grown hg (F := fun k => tv.ownBlock = some k) (fun k hk => hk)
  have hk1 := Kept.setCell (F := fun k => k = b) w1 (p := ⟨b, 0, none⟩) rfl v1
  have hv : ∀ k, v1.ownBlock = some k → tv.ownBlock = some k ∨ k = w.heap.size := fun k e => by
    rcases hat with a | a
    · exact .inl (a ▸ e)
    · rw [a] at e; simp at e; exact .inr e.symm
  have hpg : v1.ownBlock ≠ some b := fun e => by
    rcases hv b e with a | a
    · exact h.tb a
    · have := h.lt; omega
  refine ⟨heap_set ((hk.block b h.lt h.tb).trans h.blk), ?_, ?_, h.bb, hpg, h.jb, fun k e e2 => ?_⟩
  · rw [List.flatMap_append, List.length_append]
    refine ownN_kept ?_ hk1 (fun k e e2 => hpg (by rw [← e2]; exact e))
    simpa using hown
  · exact ownN_kept (ownN_kept h.jown hk (fun k e e2 => h.tj k e2 e)) hk1 (fun k e e2 => h.jb (by rw [← e2]; exact e))
  · rcases hv k e with a | a
    · exact h.tj k a e2
    · have := (h.jown.lt k e2).2; omega
theorem info_gtask : (Tryd.prog.info? 67).map (fun i => (i.zero, i.size, i.bytes)) = some (some (.agg #[.int .i64 0, .int .i64 0, .int .i64 0, .int .i64 0, .int .i64 0]), 5, 40) := by kernel_rfl
theorem new_no (w : World) (v : Value) (p : Int) (ts : List Tk) (a : Addr) (h : Tks w v ts) (hx : ¬ okG p ts) (he : w.cell? ⟨0, 0, none⟩ = some (vE a)) :
    Calls Tryd.prog 9 #[.int .i64 p, v] w fun e w' => e = .returned (.tuple #[.pointer none, vE a]) ∧ Below w.heap.size w w' := by
  have HC := mkHid (guest_no w v p ts a h hx he)
  obtain ⟨a0, cap, rfl, _, _⟩ := h
  clear he hx
  go_enter Tryd.func9, Tryd.ntmps9
  go_wp2_with (go_at_call 20; refine HC.out.mono ?_; rintro e w1 ⟨rfl, b1⟩; have HB := mkHid b1; clear b1)
  go_ret2
  exact ⟨rfl, HB.out⟩
/-- What is read stays where only new memory is written. -/
theorem Tks.late {w : World} {v : Value} {ts : List Tk} (h : Tks w v ts) {w' : World} (hb : Below w.heap.size w w') : Tks w' v ts := h.below hb
set_option maxHeartbeats 12800000 in
theorem new_ok (w : World) (v : Value) (p : Int) (ts : List Tk) (h : Tks w v ts) (hx : okG p ts) :
    Calls Tryd.prog 9 #[.int .i64 p, v] w fun e w' => ∃ b tv, e = .returned (.tuple #[.pointer (some ⟨b, 0, none⟩), .nilIface]) ∧ GB w.heap.size w' b p tv (.slice none 0 0) ⟨ts.map (fun t => (t, 0)), []⟩ ∧ Below w.heap.size w w' := by
  obtain ⟨ie, hie1, hz0, hz1, hz2⟩ := info_parts info_gtask
  have hie := mkHid (And.intro hie1 (And.intro hz0 (And.intro hz1 hz2)))
  clear hie1 hz0 hz1 hz2
  have HC := mkHid (guest_ok w v p ts h hx)
  have HU : Hid (∀ W, Calls Tryd.prog 21 #[.int .i64 p] W fun e w' => e = .returned (.func (.func (rul p)) #[] #[]) ∧ w' = W) := mkHid (fun W => rule_is W p hx.1)
  have hlen : ts.length ≤ 8 := hx.2.2.1
  have HT := mkHid h
  obtain ⟨a0, cap, rfl, _, _⟩ := h
  clear hx
  generalize hrp : rul p = RP at *
  have HRP := mkHid hrp
  clear hrp
  go_enter Tryd.func9, Tryd.ntmps9
  go_wp2_with (first | (go_at_call 20; refine HC.out.mono ?_; rintro e w1 ⟨rfl, b1⟩; have HB := mkHid b1; clear b1) | (go_at_call 21; refine (HU.out _).mono ?_; rintro e w2 ⟨rfl, hw⟩; rw [hw]; clear hw))
  obtain ⟨W, hW⟩ : ∃ W, W = w1.alloc (.cells #[.slice none 0 0, .slice none 0 0, .func (.func RP) #[] #[]] 65) := ⟨_, rfl⟩
  have HGW : Hid (GB w.heap.size W w1.heap.size p (.slice none 0 0) (.slice none 0 0) ⟨(ts.take 0).map (fun t => (t, 0)), []⟩) := mkHid ⟨by rw [hW, HRP.out]; exact heap_alloc_new w1 _, World.ownsRow_nil _ _ _ _, World.ownsRow_nil _ _ _ _, HB.out.size, by simp [Value.ownBlock], by simp [Value.ownBlock], by simp [Value.ownBlock]⟩
  have HBW : Hid (Below w.heap.size w W) := mkHid (by rw [hW]; exact ba HB.out _)
  rw [← hW]
  clear hW
  generalize w1.heap.size = b at *
  go_wp2
  go_loopw [22] (fun iv wr => ∃ (j : Nat) (ta : Option Addr) (tc : Nat), iv = .int .i64 (j : Int) ∧ j ≤ ts.length ∧ Hid (GB w.heap.size wr b p (.slice ta j tc) (.slice none 0 0) ⟨(ts.take j).map (fun t => (t, 0)), []⟩) ∧ Hid (Below w.heap.size w wr)) (fun iv _ => ts.length - (intOf iv).toNat)
  case atStart => exact ⟨0, none, 0, rfl, Nat.zero_le _, HGW, HBW⟩
  case round =>
    clear HGW HBW
    obtain ⟨j, ta, tc, rfl, hj, HGR, HBR⟩ := hrel
    by_cases hlt : j < ts.length
    · obtain ⟨tb, off, c, pp, d, s, rfl, hxj, c0, c1, c2, c3⟩ := HT.out.at HBR.out j hlt
      have hji : (j : Int) < ts.length := by omega
      have HXJ := mkHid hxj
      clear hxj
      go_wp2
      obtain ⟨W, hW⟩ : ∃ W, W = wr.alloc (.cells #[.int .i64 c, .int .i64 pp, .int .i64 d, .int .i64 s] 37) := ⟨_, rfl⟩
      have HGW := mkHid (HGR.out.below (by rw [hW]; exact ba (Below.refl _ wr) _ : Below wr.heap.size wr W))
      have HBW : Hid (Below w.heap.size w W) := mkHid (by rw [hW]; exact ba HBR.out _)
      have hbx : W.heap[wr.heap.size]? = some (.cells #[.int .i64 c, .int .i64 pp, .int .i64 d, .int .i64 s] 37 (0, 0)) := by rw [hW]; exact heap_alloc_new wr _
      have HNE : Hid (¬ wr.heap.size = b) := mkHid (by have := HGR.out.lt; omega)
      rw [← hW]
      have HGR0 := mkHid HGR.out
      clear hW c0 c1 c2 c3 HGR HBR
      have HBO : Hid ((Value.slice ta j tc).ownBlock = some wr.heap.size → False) := mkHid (fun e => by have := (HGR0.out.town.lt _ e).2; omega)
      clear HGR0
      generalize wr.heap.size = Bx at *
      have HBX := mkHid hbx
      have z0 : W.cell? ⟨Bx, 0, none⟩ = some (.int .i64 c) := cell_of_block hbx rfl
      have z1 : W.cell? ⟨Bx, 1, none⟩ = some (.int .i64 pp) := cell_of_block hbx rfl
      have z2 : W.cell? ⟨Bx, 2, none⟩ = some (.int .i64 d) := cell_of_block hbx rfl
      have z3 : W.cell? ⟨Bx, 3, none⟩ = some (.int .i64 s) := cell_of_block hbx rfl
      have c0 := HGW.out.c0
      clear hbx
      have hT : W.drew.cell? ⟨b, 0, none⟩ = some (.slice ta j tc) ∧ W.drew.cell? ⟨Bx, 0, none⟩ = some (.int .i64 c) ∧ W.drew.cell? ⟨Bx, 1, none⟩ = some (.int .i64 pp) ∧ W.drew.cell? ⟨Bx, 2, none⟩ = some (.int .i64 d) ∧ W.drew.cell? ⟨Bx, 3, none⟩ = some (.int .i64 s) := ⟨c0, z0, z1, z2, z3⟩
      refine wp_region_till (fun w' => w'.cell? ⟨b, 0, none⟩ = some (.slice ta j tc) ∧ w'.cell? ⟨Bx, 0, none⟩ = some (.int .i64 c) ∧ w'.cell? ⟨Bx, 1, none⟩ = some (.int .i64 pp) ∧ w'.cell? ⟨Bx, 2, none⟩ = some (.int .i64 d) ∧ w'.cell? ⟨Bx, 3, none⟩ = some (.int .i64 s)) 11 (by kernel_rfl) ?_
      refine freeD 0 26 (.pointer (some ⟨b, 0, none⟩)) rfl rfl (by kernel_rfl) (by kernel_rfl) (by kernel_rfl) (by decide) (fun _ _ _ h => h) (fun _ => hT) (Or.inl ⟨by kernel_rfl, by intro w _; go_simp⟩) ?_
      simp only [List.set_cons_zero, List.set_cons_succ]
      refine freeD 1 27 (.pointer (some ⟨b, 0, none⟩)) rfl rfl (by kernel_rfl) (by kernel_rfl) (by kernel_rfl) (by decide) (fun _ _ _ h => h) (fun _ => hT) (Or.inl ⟨by kernel_rfl, by intro w _; go_simp⟩) ?_
      simp only [List.set_cons_zero, List.set_cons_succ]
      refine freeD 2 28 (.pointer (some ⟨b, 0, none⟩)) rfl rfl (by kernel_rfl) (by kernel_rfl) (by kernel_rfl) (by decide) (fun _ _ _ h => h) (fun _ => hT) (Or.inl ⟨by kernel_rfl, by intro w _; go_simp⟩) ?_
      simp only [List.set_cons_zero, List.set_cons_succ]
      refine freeD 3 29 (.pointer (some ⟨b, 0, none⟩)) rfl rfl (by kernel_rfl) (by kernel_rfl) (by kernel_rfl) (by decide) (fun _ _ _ h => h) (fun _ => hT) (Or.inl ⟨by kernel_rfl, by intro w _; go_simp⟩) ?_
      simp only [List.set_cons_zero, List.set_cons_succ]
      refine firstD 4 30 (.slice ta j tc) rfl rfl (by kernel_rfl) (by kernel_rfl) (by kernel_rfl) (by kernel_rfl) (by decide) (by kernel_rfl) (fun _ _ _ h => h) (Or.inl ⟨by kernel_rfl, by intro w hSw; (try dsimp only at hSw); go_simp⟩) hT ?_
      simp only [List.set_cons_zero, List.set_cons_succ]
      refine firstD 5 31 (.agg #[.int .i64 c, .int .i64 pp, .int .i64 d, .int .i64 s]) rfl rfl (by kernel_rfl) (by kernel_rfl) (by kernel_rfl) (by kernel_rfl) (by decide) (by kernel_rfl) (fun _ _ _ h => h) (Or.inl ⟨by kernel_rfl, by intro w hSw; (try dsimp only at hSw); go_simp⟩) hT ?_
      simp only [List.set_cons_zero, List.set_cons_succ]
      refine freeD 6 32 (.agg #[.int .i64 c, .int .i64 pp, .int .i64 d, .int .i64 s, .int .i64 0]) rfl rfl (by kernel_rfl) (by kernel_rfl) (by kernel_rfl) (by decide) (fun _ _ _ h => h) (fun _ => hT) (Or.inl ⟨by kernel_rfl, by intro w _; go_simp⟩) ?_
      simp only [List.set_cons_zero, List.set_cons_succ]
      refine wpT_ready (rs := [7]) (by kernel_rfl) (by simp) (AllT.cons rfl (fun K hK => ?_) AllT.nil)
      go_simp
      obtain ⟨W4, hW4⟩ : ∃ W4, W4 = (W.alloc (.cells #[.int .i64 c, .int .i64 pp, .int .i64 d, .int .i64 s, .int .i64 0] 67)).drew := ⟨_, rfl⟩
      have b4 : Below W.heap.size W W4 := by rw [hW4]; exact (ba (Below.refl _ _) _).drew
      have HR4 : Hid (RowIn 5 cq W4 (.slice (some ⟨W.heap.size, 0, none⟩) 1 1) [(((c, pp, d, s), 0) : Tq)]) := mkHid (by
        rw [hW4]
        exact RowIn.below (rowOne (f := cq) (((c, pp, d, s), 0) : Tq) W 67) (Below.refl _ _).drew)
      have HP4 := mkHid (HGW.out.below b4)
      have HB4 : Hid (Below w.heap.size w W4) := mkHid (bt HBW.out b4)
      have HX4 := mkHid (blk_late HBX.out b4)
      rw [← hW4]
      clear hW4 b4 hT c0 z0 z1 z2 z3
      have d0 := HP4.out.c0
      have z0 : W4.cell? ⟨Bx, 0, none⟩ = some (.int .i64 c) := cell_of_block HX4.out rfl
      have z1 : W4.cell? ⟨Bx, 1, none⟩ = some (.int .i64 pp) := cell_of_block HX4.out rfl
      have z2 : W4.cell? ⟨Bx, 2, none⟩ = some (.int .i64 d) := cell_of_block HX4.out rfl
      have z3 : W4.cell? ⟨Bx, 3, none⟩ = some (.int .i64 s) := cell_of_block HX4.out rfl
      refine hK.out _ _ (fun _ => ⟨d0, z0, z1, z2, z3⟩) ?_
      clear hK K
      (try simp only [Act.put])
      generalize W.heap.size = y3 at *
      have elen : ((ts.take j).map (fun t => (t, (0 : Int)))).length = j := by rw [List.length_map, List.length_take]; omega
      have HT4 : Hid (W4.ownsRow w.heap.size 67 5 (.slice ta j tc) j (((ts.take j).map (fun t => (t, (0 : Int)))).flatMap cq)) := mkHid (by have := HP4.out.town; simp only at this; rwa [elen] at this)
      have HEL := mkHid elen
      clear elen
      refine wpT_ready (rs := [8]) (by kernel_rfl) (by simp) (AllT.cons rfl (fun K hK => ?_) AllT.nil)
      refine step_append_src5 (w := W4) rfl (.tmp 30) (.tmp 33) 63 63 rfl w.heap.size 67 ie Tryd.underlying63 hie.out.1 (.agg #[.int .i64 0, .int .i64 0, .int .i64 0, .int .i64 0, .int .i64 0]) 40 hie.out.2.1 rfl hie.out.2.2.1 hie.out.2.2.2 (.slice ta j tc) j (((ts.take j).map (fun t => (t, (0 : Int)))).flatMap cq) (by simp [Act.eval]) HT4.out _ 1 (cq ((c, pp, d, s), 0)) (by simp [Act.eval]) (srcOne (f := cq) (x := (((c, pp, d, s), 0) : Tq)) Tryd.underlying63 (by omega) cq_len oneq HR4.out) (by unfold maxLen; omega) (by omega) HP4.out.base_le ?_
      intro v6 w6 ho6 hg6 hat6
      have HPN := mkHid (HP4.out.pushT (x := ((c, pp, d, s), 0)) (by rw [HEL.out]; exact ho6) hg6 hat6)
      have hk6 := Kept.grown hg6 (F := fun k => (Value.slice ta j tc).ownBlock = some k) (fun k hk => hk)
      obtain ⟨na6, nc6, hv6, _⟩ := own_sh ho6
      subst hv6
      have hpb := (hk6.block b HP4.out.lt HP4.out.tb).trans HP4.out.blk
      have hxb := (hk6.block Bx (lt_of_heap HX4.out) (fun e => HBO.out e)).trans HX4.out
      have e0 : w6.cell? ⟨b, 0, none⟩ = some (.slice ta j tc) := cell_of_block hpb rfl
      have g1 : w6.frozen? ⟨b, 0, none⟩ = false := frozen_of_block hpb
      have u0 : w6.cell? ⟨Bx, 0, none⟩ = some (.int .i64 c) := cell_of_block hxb rfl
      have u1 : w6.cell? ⟨Bx, 1, none⟩ = some (.int .i64 pp) := cell_of_block hxb rfl
      have u2 : w6.cell? ⟨Bx, 2, none⟩ = some (.int .i64 d) := cell_of_block hxb rfl
      have u3 : w6.cell? ⟨Bx, 3, none⟩ = some (.int .i64 s) := cell_of_block hxb rfl
      have HB6 : Hid (Below w.heap.size w w6) := mkHid (HB4.out.grown hg6 HB4.out.size (fun k hk => (HP4.out.town.lt k hk).1))
      clear ho6 hg6 hat6 hk6 hpb hxb
      refine hK.out _ _ (fun _ => ⟨e0, u0, u1, u2, u3⟩) ?_
      clear hK K
      (try simp only [Act.put])
      refine freeD 9 35 (.pointer (some ⟨b, 0, none⟩)) rfl rfl (by kernel_rfl) (by kernel_rfl) (by kernel_rfl) (by decide) (fun _ _ _ h => h) (fun _ => ⟨e0, u0, u1, u2, u3⟩) (Or.inl ⟨by kernel_rfl, by intro w _; go_simp⟩) ?_
      simp only [List.set_cons_zero, List.set_cons_succ]
      refine freeD 10 36 (.pointer (some ⟨b, 0, none⟩)) rfl rfl (by kernel_rfl) (by kernel_rfl) (by kernel_rfl) (by decide) (fun _ _ _ h => h) (fun _ => ⟨e0, u0, u1, u2, u3⟩) (Or.inl ⟨by kernel_rfl, by intro w _; go_simp⟩) ?_
      simp only [List.set_cons_zero, List.set_cons_succ]
      refine wpT_ready (rs := [11]) (by kernel_rfl) (by simp) (AllT.cons rfl (fun K hK => ?_) AllT.nil)
      go_simp
      refine hK.out _ _ (bool_no (by kernel_rfl)) ?_
      clear hK K e0 g1 u0 u1 u2 u3 d0 z0 z1 z2 z3
      refine wpT_done (by kernel_rfl) ?_ _
      have HB7 : Hid (Below w.heap.size w (w6.setCell ⟨b, 0, none⟩ (.slice na6 (j + 1) nc6))) := mkHid (setG_below HB6.out HP4.out.bb _ HB6.out.size)
      generalize w6.setCell ⟨b, 0, none⟩ (.slice na6 (j + 1) nc6) = W7 at *
      go_wp2
      go_roundw
      case rel =>
        refine ⟨j + 1, na6, nc6, by go_num, by omega, mkHid ?_, HB7⟩
        have := HPN.out
        rwa [show (ts.take j).map (fun t => (t, (0 : Int))) ++ [((c, pp, d, s), 0)] = (ts.take (j + 1)).map (fun t => (t, (0 : Int))) by rw [List.take_add_one, HXJ.out, List.map_append]; rfl] at this
      case measure => simp [intOf]; omega
    · obtain rfl : j = ts.length := by omega
      clear hlt
      go_wp2
      go_ret2
      have := HGR.out
      rw [List.take_of_length_le (Nat.le_refl _)] at this
      exact ⟨b, _, rfl, this, HBR.out⟩
end Go.Proofs.YthncfkeoephipaaDoor
