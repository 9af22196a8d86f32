/- PlanShares: the shares of servers and tasks, and how they compare with a server's. -/
import Derived.Test.YtgmkhhaieolndaaDoorRefPl3
namespace Go.Proofs.YtgmkhhaieolndaaDoor
open Go.ChangeShapes Go.WideShapes Go.ChangeAt Go.RowKit
attribute [local go_sem] World.cell?_alloc_some frozen_alloc_some

set_option maxHeartbeats 3200000 in
theorem shares_walk (W : World) (v0 v1 : Value) (xs : List Sv) (ys : List Tk) (s : Sv) (a : Nat → Addr) (E : Errs W a) (hS : Svs W v0 xs) (hT : Tks W v1 ys) (hl : xs.length * 24 ≤ 140737488355328) (hm : ys.length * 32 ≤ 140737488355328) :
    Calls Tryd.prog 4 #[v0, v1, vS s] W fun e w' => e = .returned (.bool true) ∧ Below W.heap.size W w' := by
  obtain ⟨A, B, C, D, n, hw, hn, c1, c2⟩ := servers_all xs
  obtain ⟨F, G, I, J, m, hv, hk, c3, c4'⟩ := tasks_all ys
  obtain ⟨x, ok, c5, c6⟩ := within_all s hw.1 hw.2.1 hw.2.2.1 hw.2.2.2
  have C1 := mkHid c1
  have C2 := mkHid c2
  have C3 := mkHid c3
  have C4 := mkHid c4'
  have C5 := mkHid c5
  have C6 := mkHid c6
  have HN := mkHid hn
  have HK := mkHid hk
  have HE := mkHid E
  have HS := mkHid hS
  have HT := mkHid hT
  have HL := mkHid hl
  have HM := mkHid hm
  obtain ⟨sa, sc, rfl, hsl, h9⟩ := id hS
  obtain ⟨ta, tc, rfl, htl, h8⟩ := id hT
  obtain ⟨ie, hie⟩ : ∃ ie, Hid (Tryd.prog.info? 23 = some ie ∧ ie.zero = some (.agg #[.int .i64 0, .int .i64 0, .int .i64 0]) ∧ ie.size = 3 ∧ ie.bytes = 24) := by
    obtain ⟨ie, h1, h2, h3, h4⟩ := info_parts info_server
    exact ⟨ie, mkHid ⟨h1, h2, h3, h4⟩⟩
  obtain ⟨je, hje⟩ : ∃ ie, Hid (Tryd.prog.info? 62 = some ie ∧ ie.zero = some (.agg #[.int .i64 0, .int .i64 0, .int .i64 0, .int .i64 0]) ∧ ie.size = 4 ∧ ie.bytes = 32) := by
    obtain ⟨ie, h1, h2, h3, h4⟩ := info_parts info_task
    exact ⟨ie, mkHid ⟨h1, h2, h3, h4⟩⟩
  have M1 : Hid True := mkHid trivial
  have M2 : Hid True := mkHid trivial
  clear c1 c2 c3 c4' c5 c6 hn hk E hS hT hl hm h9 h8 hw hv
  obtain ⟨k, q, p⟩ := s
  go_enter Tryd.func4, Tryd.ntmps4
  go_wp2_with (first
    | (go_at_call 8; refine (alive_is _ (a 0) (HE.out.late (ba (Below.refl _ _) _)).1).mono ?_; rintro e w1 ⟨rfl, b1⟩; have HB1 := mkHid (bt (ba (Below.refl _ W) _) b1); have HS1 := mkHid ((S3.new W (k, q, p)).below b1); clear b1)
    | (at_builtin; clear M1; have hm := World.ownsRow_made (base := w1.heap.size) (e := 23) (size := 3) w1 #[] 0 (Nat.le_refl _) (by unfold maxLen; omega) rfl; refine wpList_append_src3 _ rfl (.tmp 22) (.tmp 23) 33 33 rfl w1.heap.size 23 ie Tryd.underlying33 hie.out.1 (.agg #[.int .i64 0, .int .i64 0, .int .i64 0]) 24 hie.out.2.1 rfl hie.out.2.2.1 hie.out.2.2.2 (.slice (some ⟨w1.heap.size, 0, none⟩) 0 0) 0 [] rfl hm (.slice sa xs.length sc) xs.length (xs.flatMap c3) rfl (HS.out.below (ba HB1.out _)).src (by have := HL.out; unfold maxLen; omega) (by have := HL.out; omega) (by simp) ?_; intro v4 w2 ho4 hg4 hat4; rw [Nat.zero_add, List.nil_append] at ho4; have b2 : Below w1.heap.size w1 w2 := ((Below.refl _ w1).alloc (Nat.le_refl _) (.cells #[] 23)).grown hg4 (by simp) (fun k hk => by simp [Value.ownBlock] at hk; omega); have HB2 := mkHid (bt HB1.out b2); obtain ⟨x2, y2, rfl, ht4⟩ := svs_of_owns (xs := xs) (by omega) ho4; have HS2 := mkHid ht4; have HX2 := mkHid (HS1.out.below b2); clear hm ho4 hg4 hat4 b2 ht4)
    | (go_at_call 13; refine (C1.out _ _ a HS2.out (HE.out.late HB2.out)).mono ?_; rintro e w3 ⟨rfl, b3⟩; have HB3 := mkHid (bt HB2.out b3); have HX3 := mkHid (HX2.out.below b3); clear b3)
    | (go_at_call 14; refine (C2.out _ _ (HS.out.below (ba HB3.out _))).mono ?_; rintro e w4 ⟨rfl, b4⟩; have HB4 := mkHid (bt (ba HB3.out _) b4); have HX4 := mkHid ((HX3.out.alloc _).below b4); have HP4 := mkHid ((P4.new w3 A B C D).below b4); clear b4)
    | (at_builtin; clear M2; have hm := World.ownsRow_made (base := (w4.alloc (oP A B C D)).heap.size) (e := 62) (size := 4) (w4.alloc (oP A B C D)) #[] 0 (Nat.le_refl _) (by unfold maxLen; omega) rfl; have hm2 : ((w4.alloc (oP A B C D)).alloc (Obj.cells #[] 62)).ownsRow (w4.heap.size + 1) 62 4 (.slice (some ⟨w4.heap.size + 1, 0, none⟩) 0 0) 0 [] := (by simpa using hm); refine wpList_append_src4 _ rfl (.tmp 34) (.tmp 35) 24 24 rfl (w4.heap.size + 1) 62 je Tryd.underlying24 hje.out.1 (.agg #[.int .i64 0, .int .i64 0, .int .i64 0, .int .i64 0]) 32 hje.out.2.1 rfl hje.out.2.2.1 hje.out.2.2.2 (.slice (some ⟨w4.heap.size + 1, 0, none⟩) 0 0) 0 [] rfl hm2 (.slice ta ys.length tc) ys.length (ys.flatMap c4) rfl (HT.out.below (ba (ba HB4.out _) _)).src (by have := HM.out; unfold maxLen; omega) (by have := HM.out; omega) (by simp) ?_; intro v4 w5 ho4 hg4 hat4; rw [Nat.zero_add, List.nil_append] at ho4; have b5 : Below (w4.alloc (oP A B C D)).heap.size (w4.alloc (oP A B C D)) w5 := ((Below.refl _ (w4.alloc (oP A B C D))).alloc (Nat.le_refl _) (.cells #[] 62)).grown hg4 (by simp) (fun k hk => by simp [Value.ownBlock] at hk; simp; omega); have HB5 := mkHid (bt (ba HB4.out _) b5); obtain ⟨x5, y5, rfl, ht4⟩ := tks_of_owns (xs := ys) (by omega) ho4; have HT5 := mkHid ht4; have HX5 := mkHid ((HX4.out.alloc _).below b5); have HP5 := mkHid ((HP4.out.alloc _).below b5); have HQ5 := mkHid ((P4.new w4 A B C D).below b5); clear hm hm2 ho4 hg4 hat4 b5 ht4)
    | (go_at_call 15; refine (C3.out _ _ a HT5.out (HE.out.late HB5.out)).mono ?_; rintro e w6 ⟨rfl, b6⟩; have HB6 := mkHid (bt HB5.out b6); have HX6 := mkHid (HX5.out.below b6); have HP6 := mkHid (HP5.out.below b6); have HQ6 := mkHid (HQ5.out.below b6); clear b6)
    | (go_at_call 16; refine (C4.out _ _ (HT.out.below (ba HB6.out _))).mono ?_; rintro e w7 ⟨rfl, b7⟩; have HB7 := mkHid (bt (ba HB6.out _) b7); have HP7 := mkHid ((HP6.out.alloc _).below b7); obtain ⟨d0, d1, d2⟩ := (HX6.out.alloc _).below b7; obtain ⟨q0, q1, q2, q3⟩ := ((HQ6.out.alloc _).below b7).cells; have HR7 := mkHid ((P4.new w6 F G I J).below b7); have HQ7 := mkHid ((HQ6.out.alloc _).below b7); have HX7 := mkHid ((HX6.out.alloc _).below b7); clear b7)
    | (go_at_call 17; refine (C5.out _ a (HE.out.late (ba HB7.out _))).mono ?_; rintro e w8 ⟨rfl, b8⟩; have HB8 := mkHid (bt (ba HB7.out _) b8); have HP8 := mkHid ((HP7.out.alloc _).below b8); have HQ8 := mkHid ((HQ7.out.alloc _).below b8); have HR8 := mkHid ((HR7.out.alloc _).below b8); have HY8 := mkHid ((P4.new w7 F G I J).below b8); have HX8 := mkHid ((HX7.out.alloc _).below b8); clear b8 d0 d1 d2 q0 q1 q2 q3; obtain ⟨d0, d1, d2⟩ := HX8.out; obtain ⟨q0, q1, q2, q3⟩ := HQ8.out.cells)
    | (go_at_call 18; refine (C6.out _).mono ?_; rintro e w9 ⟨rfl, b9⟩; have HB9 := mkHid (bt HB8.out b9); have HR9 := mkHid (HR8.out.below b9); have HY9 := mkHid (HY8.out.below b9); clear d0 d1 d2 q0 q1 q2 q3; obtain ⟨p0, p1, p2, p3⟩ := (HP8.out.below b9).cells; obtain ⟨q0, q1, q2, q3⟩ := (HQ8.out.below b9).cells; clear b9)
    | (go_at_call 19; first | (with_reducible refine (num_is w9 a (HE.out.late HB9.out) n HN.out).mono ?_; rintro e w10 ⟨rfl, b10⟩; have HB10 := mkHid (bt HB9.out b10); clear p0 p1 p2 p3 q0 q1 q2 q3; obtain ⟨r0, r1, r2, r3⟩ := (HR9.out.below b10).cells; obtain ⟨s0, s1, s2, s3⟩ := (HY9.out.below b10).cells; clear b10) | (with_reducible refine (num_is w10 a (HE.out.late HB10.out) m HK.out).mono ?_; rintro e w11 ⟨rfl, b11⟩; have HB11 := mkHid (bt HB10.out b11); clear r0 r1 r2 r3 s0 s1 s2 s3 b11)))
  go_ret
  exact ⟨rfl, HB11.out⟩
end Go.Proofs.YtgmkhhaieolndaaDoor
