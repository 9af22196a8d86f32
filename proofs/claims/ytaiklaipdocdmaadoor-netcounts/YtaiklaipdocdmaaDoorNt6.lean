/- add: a letter more. -/
import Derived.Test.YtaiklaipdocdmaaDoorNt5
import Derived.Test.YtaiklaipdocdmaaDoorTillD
namespace Go.Proofs.YtaiklaipdocdmaaDoor
open Go.ChangeShapes Go.WideShapes Go.ChangeAt Go.RowKit
set_option maxRecDepth 100000
attribute [local go_sem] World.cell?_alloc_some frozen_alloc_some

theorem NB.pushed {own : Nat → Int × Int} {i : Int} {w W3 w4 w6 : World} {p : Nat} {a : Option Addr} {cap : Nat} {ps : List Lp} {n : Nt} {L1 fr to nu : Int} {bs : List Int} {x4 x6 : Option Addr} {c4 c6 : Nat} (h : NB own i w p (.slice a ps.length cap) ps n) (hL : L1 = (n.last : Int) + 1) (hlt : n.ls.length < 4096) (hbl : bs.length ≤ 140737488352000) (hBy : Byts bs) (k3 : Kept (fun k => k = p) w W3) (hb4 : Below W3.heap.size W3 w4)
    (ho4 : w4.ownsRow W3.heap.size 5 1 (.slice x4 bs.length c4) bs.length (bs.map (Value.int .u8))) (ho6 : w6.ownsRow 0 50 4 (.slice x6 (ps.length + 1) c6) (ps.length + 1) (ps.flatMap cl ++ cl ((((⟨L1, fr, to, bs⟩ : Lt), x4, c4) : Lp)))) (hg6 : (w4.alloc (oL (((⟨L1, fr, to, bs⟩ : Lt), x4, c4) : Lp))).grownBy w6 (Value.slice a ps.length cap).ownBlock)
    (hat6 : (Value.slice x6 (ps.length + 1) c6).ownBlock = (Value.slice a ps.length cap).ownBlock ∨ (Value.slice x6 (ps.length + 1) c6).ownBlock = some (w4.alloc (oL (((⟨L1, fr, to, bs⟩ : Lt), x4, c4) : Lp))).heap.size) (hp6 : w6.heap[p]? = some (.cells #[.slice a ps.length cap, .int .i64 L1] 81 (0, 0))) :
    ∃ own', NR own i w p (w6.setCell ⟨p, 0, none⟩ (.slice x6 (ps.length + 1) c6)) own' (.slice x6 (ps.length + 1) c6) (ps ++ [(((⟨L1, fr, to, bs⟩ : Lt), x4, c4) : Lp)]) (n.put ⟨nu, fr, to, bs⟩) := by
  obtain ⟨NL, hNL⟩ : ∃ NL : Lp, NL = (((⟨L1, fr, to, bs⟩ : Lt), x4, c4) : Lp) := ⟨_, rfl⟩
  rw [← hNL] at ho6 hg6 hat6 ⊢
  have s3 := k3.size
  have s4 := hb4.size
  have s5 : (w4.alloc (oL NL)).heap.size = w4.heap.size + 1 := by simp
  have kg := Kept.grown hg6 (F := fun k => (Value.slice a ps.length cap).ownBlock = some k) (fun k e => e)
  have s6 := kg.size
  have hV0 : ∀ k, (Value.slice a ps.length cap).ownBlock = some k → own k = (i, 2) ∧ k < w.heap.size := fun k e => ⟨h.ov k e, (h.row.lt k e).2⟩
  have hx4 : ∀ k, (Value.slice x4 bs.length c4).ownBlock = some k → W3.heap.size ≤ k ∧ k < w4.heap.size := fun k e => ho4.lt k e
  have hx6 : ∀ k, (Value.slice x6 (ps.length + 1) c6).ownBlock = some k → (own k = (i, 2) ∧ k < w.heap.size) ∨ k = w4.heap.size + 1 := fun k e => by
    rcases hat6 with q | q
    · exact .inl (hV0 k (q ▸ e))
    · rw [q, s5] at e; simp at e; exact .inr e.symm
  have hpl := h.lt
  have hz := h.sz
  have h1 := h.one
  have np4 : ∀ k, (Value.slice x4 bs.length c4).ownBlock = some k → (Value.slice x6 (ps.length + 1) c6).ownBlock ≠ some k := fun k e e2 => by
    have q1 := hx4 k e
    rcases hx6 k e2 with q | q <;> omega
  have kset : Kept (fun k => k = p) w6 (w6.setCell ⟨p, 0, none⟩ (.slice x6 (ps.length + 1) c6)) := Kept.setCell (F := fun k => k = p) w6 (p := ⟨p, 0, none⟩) rfl _
  have kall : Kept (fun k => k = p ∨ (Value.slice a ps.length cap).ownBlock = some k) w (w6.setCell ⟨p, 0, none⟩ (.slice x6 (ps.length + 1) c6)) := by
    have q1 : Kept (fun k => k = p ∨ (Value.slice a ps.length cap).ownBlock = some k) w W3 := k3.mono (fun k e => .inl e)
    have q2 := q1.trans (kept_of_below (hb4.alloc (Nat.le_trans hb4.size (Nat.le_refl _)) (oL NL))) (fun k e => .inr (by omega))
    have q3 := q2.trans kg (fun k e => .inl (.inr e))
    exact q3.trans kset (fun k e => .inl (.inl e))
  refine ⟨fun k => if (Value.slice x6 (ps.length + 1) c6).ownBlock = some k then (i, 2) else if (Value.slice x4 bs.length c4).ownBlock = some k then (i, 2 + L1) else own k, ⟨?_, ?_, ?_, ?_, ?_, ?_, ?_, ?_, h1, h.ok.put _ hlt hbl⟩, ?_, ?_, kall.mono (fun k e => by rcases e with rfl | e; exact .inl h.op; exact .inr (h.ov k e))⟩
  · have := heap_set (i := 0) (v := .slice x6 (ps.length + 1) c6) hp6
    rw [this]
    show some (Obj.cells #[.slice x6 (ps.length + 1) c6, .int .i64 L1] _ _) = some (Obj.cells #[.slice x6 (ps.length + 1) c6, .int .i64 ((n.last + 1 : Nat) : Int)] _ _)
    rw [hL]
    rfl
  · rw [List.length_append, List.length_singleton, List.flatMap_append]
    have : [NL].flatMap cl = cl NL := by simp
    rw [this]
    exact ownN_kept ho6 kset (fun k e e2 => by
      subst e2
      rcases hx6 k e with ⟨q, _⟩ | q
      · rw [h.op] at q; simp at q
      · omega)
  · rw [List.map_append, h.eq, hNL]
    show n.ls ++ [(⟨L1, fr, to, bs⟩ : Lt)] = n.ls ++ [⟨(n.last : Int) + 1, fr, to, bs⟩]
    rw [hL]
  · rw [if_neg, if_neg]
    · exact h.op
    · intro e; have := hx4 p e; omega
    · intro e
      rcases hx6 p e with ⟨q, _⟩ | q
      · rw [h.op] at q; simp at q
      · omega
  · intro k e
    rw [if_pos e]
  · intro l hl
    rcases List.mem_append.mp hl with hl | hl
    · refine (h.bys l hl).kept kall (fun k e e2 => ?_)
      have q := h.num_ne hl (h.ob l hl k e)
      rcases e2 with rfl | e2
      · exact q.1 h.op
      · exact q.2 (h.ov k e2)
    · simp only [List.mem_singleton] at hl
      rw [hl, hNL]
      have r4 := Rd.of_owns hBy ho4
      have r5 := r4.later ((Below.refl _ w4).alloc (Nat.le_refl _) (oL NL))
      have r6 := r5.kept kg (fun k e e2 => by have q1 := hx4 k e; have q2 := (hV0 k e2).2; omega)
      exact r6.kept kset (fun k e e2 => by have q1 := hx4 k e; omega)
  · intro l hl k e
    rcases List.mem_append.mp hl with hl | hl
    · have q := h.ob l hl k e
      have hkl : k < w.heap.size := Nat.lt_of_not_le (fun hge => by rw [hz k hge] at q; simp at q; exact h1 q.1.symm)
      rw [if_neg, if_neg]
      · exact q
      · intro e2; have := hx4 k e2; omega
      · intro e2
        rcases hx6 k e2 with ⟨q2, _⟩ | q2
        · exact (h.num_ne hl q).2 q2
        · omega
    · simp only [List.mem_singleton] at hl
      rw [hl, hNL] at e ⊢
      rw [if_neg (np4 k e), if_pos e]
  · intro k hk
    have hk2 : w6.heap.size ≤ k := by have := kset.size; omega
    rw [if_neg, if_neg]
    · exact hz k (by omega)
    · intro e; have := hx4 k e; omega
    · intro e; have := (ho6.lt k e).2; omega
  · intro k hk
    show (if _ then _ else if _ then _ else own k) = own k
    by_cases e : (Value.slice x6 (ps.length + 1) c6).ownBlock = some k
    · rw [if_pos e]
      rcases hx6 k e with ⟨q, _⟩ | q
      · exact q.symm
      · omega
    · rw [if_neg e, if_neg]
      intro e2; have := hx4 k e2; omega
  · intro k hk
    show (if _ then _ else if _ then _ else own k) = (0, 0) ∨ (if _ then _ else if _ then _ else own k : Int × Int).1 = i
    by_cases e : (Value.slice x6 (ps.length + 1) c6).ownBlock = some k
    · rw [if_pos e]; exact .inr rfl
    · rw [if_neg e]
      by_cases e2 : (Value.slice x4 bs.length c4).ownBlock = some k
      · rw [if_pos e2]; exact .inr rfl
      · rw [if_neg e2]; exact .inl (hz k hk)
/-- What add answers. -/
def AddP (own : Nat → Int × Int) (i : Int) (w : World) (p : Nat) (n : Nt) (l : Lt) (ef : Addr) (e : Ending) (w' : World) : Prop :=
  (¬ n.ls.length < 4096 ∧ e = .returned (.tuple #[.int .i64 0, vE ef]) ∧ Below w.heap.size w w') ∨ (n.ls.length < 4096 ∧ e = .returned (.tuple #[.int .i64 ((n.last : Int) + 1), .nilIface]) ∧ ∃ own' v' ps', NR own i w p w' own' v' ps' (n.put l))
set_option maxHeartbeats 12800000 in
theorem add_is (own : Nat → Int × Int) (i : Int) (w : World) (p : Nat) (v : Value) (ps : List Lp) (n : Nt) (h : NB own i w p v ps n) (fr to nu : Int) (x : Value) (bs : List Int) (hx : Rd w x bs) (hxl : bs.length ≤ 140737488352000) (hxp : ∀ w', Kept (fun k => k = p) w w' → Rd w' x bs) (hlast : (n.last : Int) ≤ 9223372036854775800) (ef : Addr) (he : w.cell? ⟨7, 0, none⟩ = some (vE ef)) :
    Calls Tryd.prog 38 #[.pointer (some ⟨p, 0, none⟩), .int .i64 fr, .int .i64 to, x] w (AddP own i w p n ⟨nu, fr, to, bs⟩ ef) := by
  obtain ⟨ie, hi, hz0, hz1, hz2⟩ := info_parts info_letter
  have hie := mkHid (And.intro hi (And.intro hz0 (And.intro hz1 hz2)))
  clear hi hz0 hz1 hz2
  obtain ⟨c0, c1, f0, f1⟩ := h.cells
  obtain ⟨a, cap, rfl, _⟩ := h.shape
  obtain ⟨xba, xbc, rfl⟩ : ∃ a c, x = .slice a bs.length c := hx.2.imp fun a h => h.imp fun c h => h.1
  have hlen := h.len
  by_cases hfull : (4096 : Int) ≤ (ps.length : Int)
  · have HB : Hid (¬ n.ls.length < 4096) := mkHid (by omega)
    clear h hx hxl hxp hlast hlen
    go_enter Tryd.func38, Tryd.ntmps38
    go_wp2
    go_quiet (fail)
    go_wp2
    go_ret2
    exact .inl ⟨HB.out, rfl, (Below.refl _ w).trans ⟨rfl, rfl, rfl, Nat.le_refl _, fun _ _ => rfl⟩⟩
  · have hfull' : ¬ (4096 : Int) ≤ (ps.length : Int) := hfull
    have hltp : ps.length < 4096 := by omega
    have HLT : Hid (n.ls.length < 4096) := mkHid (by omega)
    have HN := mkHid h
    have HX := mkHid hx
    have HBL := mkHid hxl
    have HNE : Hid (¬ (Value.slice a ps.length cap).ownBlock = some p) := mkHid (fun e => by have h1 := h.ov p e; rw [h.op] at h1; simp at h1)
    have HXP := mkHid hxp
    obtain ⟨L1, hL1⟩ : ∃ L1 : Int, L1 = (n.last : Int) + 1 := ⟨_, rfl⟩
    have HL1 := mkHid hL1
    have hw : IntKind.i64.wrap ((n.last : Int) + 1) = L1 := by rw [hL1]; exact wfit (by omega) (by omega)
    have hw2 : wrap64 ((n.last : Int) + 1) = L1 := by rw [hL1]; unfold wrap64; omega
    clear h hx hxl hxp hlen hL1 hlast
    go_enter Tryd.func38, Tryd.ntmps38
    go_wp2
    obtain ⟨W3, hW3⟩ : ∃ W3, W3 = w.setCell ⟨p, 1, none⟩ (.int .i64 L1) := ⟨_, rfl⟩
    rw [← hW3]
    have k3 : Kept (fun k => k = p) w W3 := by rw [hW3]; exact Kept.setCell (F := fun k => k = p) w (p := ⟨p, 1, none⟩) rfl _
    have hp3 : W3.heap[p]? = some (.cells #[.slice a ps.length cap, .int .i64 L1] 81 (0, 0)) := by rw [hW3]; exact heap_set (i := 1) HN.out.blk
    have d0 : W3.cell? ⟨p, 0, none⟩ = some (.slice a ps.length cap) := cell_of_block hp3 rfl
    have d1 : W3.cell? ⟨p, 1, none⟩ = some (.int .i64 L1) := cell_of_block hp3 rfl
    have HP3 := mkHid hp3
    have HK3 := mkHid k3
    have HRD : Hid (Rd W3 (.slice xba bs.length xbc) bs) := mkHid (HXP.out _ k3)
    have HROW : Hid (W3.ownsRow 0 50 4 (.slice a ps.length cap) ps.length (ps.flatMap cl)) := mkHid (ownN_kept HN.out.row k3 (fun k e e2 => by subst e2; exact HNE.out e))
    clear hW3 k3 hp3 c0 c1 f0 f1 hw hw2
    have hT : W3.drew.cell? ⟨p, 0, none⟩ = some (.slice a ps.length cap) ∧ W3.drew.cell? ⟨p, 1, none⟩ = some (.int .i64 L1) := ⟨d0, d1⟩
    refine wp_region_till (fun w' => w'.cell? ⟨p, 0, none⟩ = some (.slice a ps.length cap) ∧ w'.cell? ⟨p, 1, none⟩ = some (.int .i64 L1)) 18 (by kernel_rfl) ?_
    refine freeD 0 24 (.pointer (some ⟨p, 0, none⟩)) rfl rfl (by kernel_rfl) (by kernel_rfl) (by kernel_rfl) (by decide) (fun _ _ _ h => h) (fun _ => hT) (Or.inl ⟨by kernel_rfl, by intro w _; go_simp⟩) ?_
    simp only [List.set_cons_zero, List.set_cons_succ]
    refine freeD 1 25 (.pointer (some ⟨p, 0, none⟩)) rfl rfl (by kernel_rfl) (by kernel_rfl) (by kernel_rfl) (by decide) (fun _ _ _ h => h) (fun _ => hT) (Or.inl ⟨by kernel_rfl, by intro w _; go_simp⟩) ?_
    simp only [List.set_cons_zero, List.set_cons_succ]
    refine freeD 2 26 (.pointer (some ⟨p, 0, none⟩)) rfl rfl (by kernel_rfl) (by kernel_rfl) (by kernel_rfl) (by decide) (fun _ _ _ h => h) (fun _ => hT) (Or.inl ⟨by kernel_rfl, by intro w _; go_simp⟩) ?_
    simp only [List.set_cons_zero, List.set_cons_succ]
    refine freeD 3 27 (.pointer (some ⟨p, 0, none⟩)) rfl rfl (by kernel_rfl) (by kernel_rfl) (by kernel_rfl) (by decide) (fun _ _ _ h => h) (fun _ => hT) (Or.inl ⟨by kernel_rfl, by intro w _; go_simp⟩) ?_
    simp only [List.set_cons_zero, List.set_cons_succ]
    refine firstD 4 28 (.slice a ps.length cap) rfl rfl (by kernel_rfl) (by kernel_rfl) (by kernel_rfl) (by kernel_rfl) (by decide) (by kernel_rfl) (fun _ _ _ h => h) (Or.inl ⟨by kernel_rfl, by intro w hSw; (try dsimp only at hSw); go_simp⟩) hT ?_
    simp only [List.set_cons_zero, List.set_cons_succ]
    refine freeD 5 29 (.pointer (some ⟨p, 0, none⟩)) rfl rfl (by kernel_rfl) (by kernel_rfl) (by kernel_rfl) (by decide) (fun _ _ _ h => h) (fun _ => hT) (Or.inl ⟨by kernel_rfl, by intro w _; go_simp⟩) ?_
    simp only [List.set_cons_zero, List.set_cons_succ]
    refine freeD 6 30 (.pointer (some ⟨p, 0, none⟩)) rfl rfl (by kernel_rfl) (by kernel_rfl) (by kernel_rfl) (by decide) (fun _ _ _ h => h) (fun _ => hT) (Or.inl ⟨by kernel_rfl, by intro w _; go_simp⟩) ?_
    simp only [List.set_cons_zero, List.set_cons_succ]
    refine freeD 7 31 (.pointer (some ⟨p, 1, none⟩)) rfl rfl (by kernel_rfl) (by kernel_rfl) (by kernel_rfl) (by decide) (fun _ _ _ h => h) (fun _ => hT) (Or.inl ⟨by kernel_rfl, by intro w _; go_simp⟩) ?_
    simp only [List.set_cons_zero, List.set_cons_succ]
    refine firstD 8 32 (.int .i64 L1) rfl rfl (by kernel_rfl) (by kernel_rfl) (by kernel_rfl) (by kernel_rfl) (by decide) (by kernel_rfl) (fun _ _ _ h => h) (Or.inl ⟨by kernel_rfl, by intro w hSw; (try dsimp only at hSw); go_simp⟩) hT ?_
    simp only [List.set_cons_zero, List.set_cons_succ]
    refine freeD 9 33 (.int .i64 fr) rfl rfl (by kernel_rfl) (by kernel_rfl) (by kernel_rfl) (by decide) (fun _ _ _ h => h) (fun _ => hT) (Or.inl ⟨by kernel_rfl, by intro w _; go_simp⟩) ?_
    simp only [List.set_cons_zero, List.set_cons_succ]
    refine freeD 10 34 (.int .i64 to) rfl rfl (by kernel_rfl) (by kernel_rfl) (by kernel_rfl) (by decide) (fun _ _ _ h => h) (fun _ => hT) (Or.inl ⟨by kernel_rfl, by intro w _; go_simp⟩) ?_
    simp only [List.set_cons_zero, List.set_cons_succ]
    refine freeD 11 35 (.slice xba bs.length xbc) rfl rfl (by kernel_rfl) (by kernel_rfl) (by kernel_rfl) (by decide) (fun _ _ _ h => h) (fun _ => hT) (Or.inl ⟨by kernel_rfl, by intro w _; go_simp⟩) ?_
    simp only [List.set_cons_zero, List.set_cons_succ]
    refine wpT_ready (rs := [12]) (by kernel_rfl) (by simp) (AllT.cons rfl (fun K hK => ?_) AllT.nil)
    go_simp
    refine (clone_any _ _ bs (HRD.out.later (Below.refl _ W3).drew) (by have := HBL.out; omega)).mono ?_
    rintro r w4 ⟨v4, rfl, ho4, b4⟩
    have b34 : Below W3.heap.size W3 w4 := (Below.refl _ W3).drew.trans b4
    obtain ⟨x4, c4, rfl⟩ := own_shape ho4
    have e0 := kc d0 b34
    have e1 := kc d1 b34
    have HO4 := mkHid ho4
    have HB4 := mkHid b34
    clear ho4 b4 b34 hT d0 d1
    refine hK.out _ _ (fun _ => ⟨e0, e1⟩) ?_
    clear hK K
    (try simp only [Act.put])
    refine freeD 13 37 (.agg #[.int .i64 L1, .int .i64 fr, .int .i64 to, .slice x4 bs.length c4]) rfl rfl (by kernel_rfl) (by kernel_rfl) (by kernel_rfl) (by decide) (fun _ _ _ h => h) (fun _ => ⟨e0, e1⟩) (Or.inl ⟨by kernel_rfl, by intro w _; go_simp⟩) ?_
    simp only [List.set_cons_zero, List.set_cons_succ]
    refine wpT_ready (rs := [14]) (by kernel_rfl) (by simp) (AllT.cons rfl (fun K hK => ?_) AllT.nil)
    go_simp
    have g0 := kl e0 (.cells #[.int .i64 L1, .int .i64 fr, .int .i64 to, .slice x4 bs.length c4] 50)
    have g1 := kl e1 (.cells #[.int .i64 L1, .int .i64 fr, .int .i64 to, .slice x4 bs.length c4] 50)
    clear e0 e1
    refine hK.out _ _ (fun _ => ⟨g0, g1⟩) ?_
    clear hK K
    (try simp only [Act.put])
    have HRO : Hid ((w4.alloc (oL (((⟨L1, fr, to, bs⟩ : Lt), x4, c4) : Lp))).ownsRow 0 50 4 (.slice a ps.length cap) ps.length (ps.flatMap cl)) := mkHid (ownN_kept HROW.out (kept_of_below (ba HB4.out _)) (fun k e hge => by have := (HROW.out.lt k e).2; omega))
    have HSN : Hid (Src Tryd.prog 4 79 (.slice (some ⟨w4.heap.size, 0, none⟩) 1 1) 1 (cl (((⟨L1, fr, to, bs⟩ : Lt), x4, c4) : Lp)) (w4.alloc (oL (((⟨L1, fr, to, bs⟩ : Lt), x4, c4) : Lp)))) := mkHid (srcOne Tryd.underlying79 (by omega) cl_len one_cl (rowOne (((⟨L1, fr, to, bs⟩ : Lt), x4, c4) : Lp) w4 50))
    refine wpT_ready (rs := [15]) (by kernel_rfl) (by simp) (AllT.cons rfl (fun K hK => ?_) AllT.nil)
    refine step_append_src4 (w := w4.alloc (oL (((⟨L1, fr, to, bs⟩ : Lt), x4, c4) : Lp))) rfl (.tmp 28) (.tmp 38) 79 79 rfl 0 50 ie Tryd.underlying79 hie.out.1 _ 48 hie.out.2.1 rfl hie.out.2.2.1 hie.out.2.2.2 (.slice a ps.length cap) ps.length (ps.flatMap cl) (by simp [Act.eval]) HRO.out _ 1 (cl (((⟨L1, fr, to, bs⟩ : Lt), x4, c4) : Lp)) (by simp [Act.eval]) HSN.out (by unfold maxLen; omega) (by omega) (Nat.zero_le _) ?_
    intro v6 w6 ho6 hg6 hat6
    obtain ⟨x6, c6, rfl⟩ := own_shape ho6
    have HAP := mkHid (And.intro ho6 (And.intro hg6 hat6))
    have k6 := Kept.grown hg6 (F := fun k => (Value.slice a ps.length cap).ownBlock = some k) (fun k e => e)
    have hne : ¬ (Value.slice a ps.length cap).ownBlock = some p := HNE.out
    have z0 := k6.cell g0 hne
    have z1 := k6.cell g1 hne
    have hz := k6.block p (World.block_lt_of_cell? _ _ g0) hne
    have hz2 := (ba HB4.out (oL (((⟨L1, fr, to, bs⟩ : Lt), x4, c4) : Lp))).block p (lt_of_heap HP3.out)
    have hpb6 : w6.heap[p]? = some (.cells #[.slice a ps.length cap, .int .i64 L1] 81 (0, 0)) := hz.trans (hz2.trans HP3.out)
    have HPB := mkHid hpb6
    have f0 : w6.frozen? ⟨p, 0, none⟩ = false := frozen_of_block hpb6
    clear hz hz2 hpb6 ho6 hg6 hat6 k6 g0 g1
    refine hK.out _ _ (fun _ => ⟨z0, z1⟩) ?_
    clear hK K
    (try simp only [Act.put])
    refine freeD 16 40 (.pointer (some ⟨p, 0, none⟩)) rfl rfl (by kernel_rfl) (by kernel_rfl) (by kernel_rfl) (by decide) (fun _ _ _ h => h) (fun _ => ⟨z0, z1⟩) (Or.inl ⟨by kernel_rfl, by intro w _; go_simp⟩) ?_
    simp only [List.set_cons_zero, List.set_cons_succ]
    refine freeD 17 41 (.pointer (some ⟨p, 0, none⟩)) rfl rfl (by kernel_rfl) (by kernel_rfl) (by kernel_rfl) (by decide) (fun _ _ _ h => h) (fun _ => ⟨z0, z1⟩) (Or.inl ⟨by kernel_rfl, by intro w _; go_simp⟩) ?_
    simp only [List.set_cons_zero, List.set_cons_succ]
    have HNR : Hid (∃ own', NR own i w p (w6.setCell ⟨p, 0, none⟩ (.slice x6 (ps.length + 1) c6)) own' (.slice x6 (ps.length + 1) c6) (ps ++ [(((⟨L1, fr, to, bs⟩ : Lt), x4, c4) : Lp)]) (n.put ⟨nu, fr, to, bs⟩)) := mkHid (HN.out.pushed HL1.out HLT.out HBL.out HX.out.1 HK3.out HB4.out HO4.out HAP.out.1 HAP.out.2.1 HAP.out.2.2 HPB.out)
    refine wpT_ready (rs := [18]) (by kernel_rfl) (by simp) (AllT.cons rfl (fun K hK => ?_) AllT.nil)
    go_simp
    refine hK.out _ _ (bool_no (by kernel_rfl)) ?_
    clear hK K z0 z1 f0
    refine wpT_done (by kernel_rfl) ?_ _
    have hb7 := heap_set (i := 0) (v := .slice x6 (ps.length + 1) c6) HPB.out
    have y1 : (w6.setCell ⟨p, 0, none⟩ (.slice x6 (ps.length + 1) c6)).cell? ⟨p, 1, none⟩ = some (.int .i64 L1) := cell_of_block hb7 rfl
    clear hb7
    generalize w6.setCell ⟨p, 0, none⟩ (.slice x6 (ps.length + 1) c6) = W7 at *
    go_wp2
    go_ret2
    obtain ⟨own', hnr⟩ := HNR.out
    exact .inr ⟨HLT.out, by rw [← HL1.out]; rfl, own', _, _, hnr⟩
end Go.Proofs.YtaiklaipdocdmaaDoor
