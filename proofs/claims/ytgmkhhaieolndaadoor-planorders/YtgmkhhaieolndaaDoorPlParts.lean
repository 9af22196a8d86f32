/- PlanParts: one server's share, and two servers'. -/
import Derived.Test.YtgmkhhaieolndaaDoorPlErr
namespace Go.Proofs.YtgmkhhaieolndaaDoor
open Go.ChangeShapes Go.WideShapes Go.ChangeAt Go.RowKit
attribute [local go_sem] World.cell?_alloc_some frozen_alloc_some

theorem sh1 (x : Int × Int) : sh [x] = (x.1, x.2) := by simp [sh, addp]
theorem sh2 (x y : Int × Int) : sh [x, y] = (x.1 * y.2 + x.2 * y.1, x.2 * y.2) := by simp [sh, addp]
theorem ag_fit {N D q t x : Int} (n1 : N ≤ 147573952589676412928) (d0 : 1 ≤ D) (d1 : D ≤ 18446744073709551616) (q0 : 0 ≤ q) (q1 : q ≤ 256) (t0 : 1 ≤ t) (t1 : t ≤ 256) (hx : x = cmpI (N * t) (D * q)) : AgIs N D q t x true := by
  have e1 : N * t ≤ 147573952589676412928 * 256 := Int.mul_le_mul n1 t1 (by omega) (by decide)
  have e2 : D * q ≤ 18446744073709551616 * 256 := Int.mul_le_mul d1 q1 (by omega) (by decide)
  exact ⟨fun _ => ⟨⟨by omega, q0, t0⟩, by omega, by omega, hx⟩, fun h => (by cases h)⟩
theorem cmp_gt {a b : Int} (h : b < a) : (1 : Int) = cmpI a b := by unfold cmpI; rw [if_neg (by omega), if_pos h]
theorem cmp_lt {a b : Int} (h : a < b) : (-1 : Int) = cmpI a b := by unfold cmpI; rw [if_pos h]
theorem cmp_same {a b : Int} (h : a = b) : (0 : Int) = cmpI a b := by unfold cmpI; rw [if_neg (by omega), if_neg (by omega)]
theorem gt_left {q t q' t' : Int} (h1 : 1 ≤ t) (h2 : 1 ≤ q') : t * t' * q < (q * t' + t * q') * t := by
  have e : (q * t' + t * q') * t = t * t' * q + t * q' * t := by grind
  have := Int.mul_pos (Int.mul_pos (show 0 < t by omega) (show 0 < q' by omega)) (show 0 < t by omega)
  omega
theorem gt_right {q t q' t' : Int} (h1 : 1 ≤ q) (h2 : 1 ≤ t') : t * t' * q' < (q * t' + t * q') * t' := by
  have e : (q * t' + t * q') * t' = t * t' * q' + q * t' * t' := by grind
  have := Int.mul_pos (Int.mul_pos (show 0 < q by omega) (show 0 < t' by omega)) (show 0 < t' by omega)
  omega

set_option maxHeartbeats 1600000 in
theorem parts_a (W : World) (s t : Sv) (a : Addr) (E : Err W 0 text0 a) (hs : ¬ okS s) :
    Calls Tryd.prog 7 #[vS s, vS t] W fun e w' => e = .returned (.bool true) ∧ Below W.heap.size W w' := by
  have HS := mkHid hs
  have HE := mkHid E
  clear E hs
  obtain ⟨k, q, p⟩ := s
  obtain ⟨k', q', p'⟩ := t
  have M1 : Hid True := mkHid trivial
  go_enter Tryd.func7, Tryd.ntmps7
  go_wp2_with (first
    | (go_at_call 8; refine (alive_is _ a (HE.out.late (ba (ba (Below.refl _ _) _) _))).mono ?_; rintro e w1 ⟨rfl, b1⟩; have HB1 := mkHid (bt (ba (ba (Below.refl _ W) _) _) b1); obtain ⟨⟨c0, c1, c2⟩, d0, d1, d2⟩ := And.intro ((S3.two W (k, q, p) (k', q', p')).1.below b1) ((S3.two W (k, q, p) (k', q', p')).2.below b1); clear b1)
    | (go_at_call 13; clear M1; refine (servers_no _ _ [(k, q, p)] a (svs_one w1 (k, q, p)) ⟨_, by simp, HS.out⟩ (HE.out.late (ba HB1.out _)).1).mono ?_; rintro e w2 ⟨rfl, b2⟩; have HB2 := mkHid (bt (ba HB1.out _) b2); obtain ⟨⟨c0', c1', c2'⟩, d0', d1', d2'⟩ := And.intro (((show S3 _ _ (k, q, p) from ⟨c0, c1, c2⟩).alloc _).below b2) (((show S3 _ _ (k', q', p') from ⟨d0, d1, d2⟩).alloc _).below b2); clear b2 c0 c1 c2 d0 d1 d2)
    | (go_at_call 13; refine (servers_no _ _ [(k, q, p), (k', q', p')] a (svs_two_at (w2.alloc (oP 0 0 0 0)) (w2.heap.size + 1) (by simp) (k, q, p) (k', q', p')) ⟨(k, q, p), by simp, HS.out⟩ (HE.out.late (ba (ba HB2.out _) _)).1).mono ?_; rintro e w3 ⟨rfl, b3⟩; have HB3 := mkHid (bt (ba (ba HB2.out _) _) b3); obtain ⟨⟨c0, c1, c2⟩, d0, d1, d2⟩ := And.intro ((((show S3 _ _ (k, q, p) from ⟨c0', c1', c2'⟩).alloc _).alloc _).below b3) ((((show S3 _ _ (k', q', p') from ⟨d0', d1', d2'⟩).alloc _).alloc _).below b3); clear b3 c0' c1' c2' d0' d1' d2')
    | (go_at_call 11; refine (reflegal_no _ (k, q, p) HS.out).mono ?_; rintro e w4 ⟨rfl, b4⟩; have HB4 := mkHid (bt (ba HB3.out _) b4); clear b4))
  go_ret
  exact ⟨rfl, HB4.out⟩

set_option maxHeartbeats 1600000 in
theorem parts_b (W : World) (s t : Sv) (a : Addr) (E : Err W 0 text0 a) (hs : okS s) (ht : ¬ okS t) :
    Calls Tryd.prog 7 #[vS s, vS t] W fun e w' => e = .returned (.bool true) ∧ Below W.heap.size W w' := by
  have hq1 : ∀ x ∈ [s].map qt, okq x := by intro x hx; simp at hx; rw [hx]; exact hs.q
  obtain ⟨A, B, C, D, hp⟩ := sh_pt ([s].map qt) hq1 (by simp)
  have HP := mkHid hp
  have HS := mkHid hs
  have HT := mkHid ht
  have HE := mkHid E
  clear E hs ht hq1 hp
  obtain ⟨k, q, p⟩ := s
  obtain ⟨k', q', p'⟩ := t
  have M1 : Hid True := mkHid trivial
  have M2 : Hid True := mkHid trivial
  go_enter Tryd.func7, Tryd.ntmps7
  go_wp2_with (first
    | (go_at_call 8; refine (alive_is _ a (HE.out.late (ba (ba (Below.refl _ _) _) _))).mono ?_; rintro e w1 ⟨rfl, b1⟩; have HB1 := mkHid (bt (ba (ba (Below.refl _ W) _) _) b1); obtain ⟨⟨c0, c1, c2⟩, d0, d1, d2⟩ := And.intro ((S3.two W (k, q, p) (k', q', p')).1.below b1) ((S3.two W (k, q, p) (k', q', p')).2.below b1); clear b1)
    | (go_at_call 13; clear M1; refine (servers_ok _ _ [(k, q, p)] A B C D (svs_one w1 (k, q, p)) (by intro x hx; simp at hx; rw [hx]; exact HS.out) (by simp) HP.out).mono ?_; rintro e w2 ⟨rfl, b2⟩; have HB2 := mkHid (bt (ba HB1.out _) b2); obtain ⟨⟨c0', c1', c2'⟩, d0', d1', d2'⟩ := And.intro (((show S3 _ _ (k, q, p) from ⟨c0, c1, c2⟩).alloc _).below b2) (((show S3 _ _ (k', q', p') from ⟨d0, d1, d2⟩).alloc _).below b2); clear b2 c0 c1 c2 d0 d1 d2)
    | (go_at_call 13; refine (servers_no _ _ [(k, q, p), (k', q', p')] a (svs_two_at (w2.alloc (oP A B C D)) (w2.heap.size + 1) (by simp) (k, q, p) (k', q', p')) ⟨(k', q', p'), by simp, HT.out⟩ (HE.out.late (ba (ba HB2.out _) _)).1).mono ?_; rintro e w3 ⟨rfl, b3⟩; have HB3 := mkHid (bt (ba (ba HB2.out _) _) b3); obtain ⟨⟨c0, c1, c2⟩, d0, d1, d2⟩ := And.intro ((((show S3 _ _ (k, q, p) from ⟨c0', c1', c2'⟩).alloc _).alloc _).below b3) ((((show S3 _ _ (k', q', p') from ⟨d0', d1', d2'⟩).alloc _).alloc _).below b3); clear b3 c0' c1' c2' d0' d1' d2')
    | (go_at_call 11; clear M2; refine (reflegal_ok _ (k, q, p) HS.out).mono ?_; rintro e w4 ⟨rfl, b4⟩; have HB4 := mkHid (bt (ba HB3.out _) b4); obtain ⟨d0', d1', d2'⟩ := (((show S3 _ _ (k', q', p') from ⟨d0, d1, d2⟩).alloc _).below b4); clear b4 c0 c1 c2 d0 d1 d2)
    | (go_at_call 11; refine (reflegal_no _ (k', q', p') HT.out).mono ?_; rintro e w5 ⟨rfl, b5⟩; have HB5 := mkHid (bt HB4.out b5); clear b5))
  go_ret
  exact ⟨rfl, HB5.out⟩
set_option maxHeartbeats 3200000 in
theorem parts_c (W : World) (s t : Sv) (a : Addr) (E : Err W 0 text0 a) (hs : okS s) (ht : okS t) :
    Calls Tryd.prog 7 #[vS s, vS t] W fun e w' => e = .returned (.bool true) ∧ Below W.heap.size W w' := by
  have hq1 : ∀ x ∈ [s].map qt, okq x := by intro x hx; simp at hx; rw [hx]; exact hs.q
  have hq2 : ∀ x ∈ [s, t].map qt, okq x := by
    intro x hx
    simp at hx
    rcases hx with rfl | rfl
    · exact hs.q
    · exact ht.q
  obtain ⟨A, B, C, D, hp⟩ := sh_pt ([s].map qt) hq1 (by simp)
  obtain ⟨F, G, I, J, hr⟩ := sh_pt ([s, t].map qt) hq2 (by simp)
  have f1 := sh_fit ([s].map qt) hq1 (by simp)
  have f2 := sh_fit ([s, t].map qt) hq2 (by simp)
  have HP := mkHid hp
  have HR := mkHid hr
  have HS := mkHid hs
  have HT := mkHid ht
  have HE := mkHid E
  obtain ⟨k, q, p⟩ := s
  obtain ⟨k', q', p'⟩ := t
  obtain ⟨s1, s2, s3, s4, s5⟩ := hs
  obtain ⟨t1, t2, t3, t4, t5⟩ := ht
  simp only at s1 s2 s3 s4 s5 t1 t2 t3 t4 t5
  have e1 : sh ([(k, q, p)].map qt) = (q, p) := sh1 _
  have e2 : sh ([(k, q, p), (k', q', p')].map qt) = (q * p' + p * q', p * p') := sh2 _ _
  rw [e1] at f1 hp
  rw [e2] at f2 hr
  simp only at f1 f2
  have g1 : AgIs (wv A B) (wv C D) q p 0 true := by rw [hp.n, hp.d]; exact ag_fit f1.2.2.2 f1.1 f1.2.1 (by omega) (by omega) (by omega) (by omega) (cmp_same (Int.mul_comm _ _))
  have g2 : AgIs (wv F G) (wv I J) q p 1 true := by rw [hr.n, hr.d]; exact ag_fit f2.2.2.2 f2.1 f2.2.1 (by omega) (by omega) (by omega) (by omega) (cmp_gt (gt_left (by omega) (by omega)))
  have g3 : AgIs (wv F G) (wv I J) q' p' 1 true := by rw [hr.n, hr.d]; exact ag_fit f2.2.2.2 f2.1 f2.2.1 (by omega) (by omega) (by omega) (by omega) (cmp_gt (gt_right (by omega) (by omega)))
  obtain ⟨x, hx⟩ : ∃ x, x = cmpI (q * 1) (p * 1) := ⟨_, rfl⟩
  have g4 : AgIs (wv A B) (wv C D) 1 1 x true := by rw [hp.n, hp.d]; exact ag_fit f1.2.2.2 f1.1 f1.2.1 (by omega) (by omega) (by omega) (by omega) hx
  have g5 : CrossIs q p 1 1 x true := ⟨fun _ => ⟨⟨by omega, by omega, by decide, by decide⟩, by rw [hx, Int.mul_comm p 1]⟩, fun h => (by cases h)⟩
  have H1 := mkHid g1
  have H2 := mkHid g2
  have H3 := mkHid g3
  have H4 := mkHid g4
  have H5 := mkHid g5
  have i1 : I64 1 := ⟨by decide, by decide⟩
  have HI := mkHid i1
  clear E hq1 hq2 hp hr f1 f2 e1 e2 g1 g2 g3 g4 g5 hx i1 s1 s2 s3 s4 s5 t1 t2 t3 t4 t5
  have M1 : Hid True := mkHid trivial
  have M2 : Hid True := mkHid trivial
  have M3 : Hid True := mkHid trivial
  have M4 : Hid True := mkHid trivial
  go_enter Tryd.func7, Tryd.ntmps7
  go_wp2_with (first
    | (go_at_call 8; refine (alive_is _ a (HE.out.late (ba (ba (Below.refl _ _) _) _))).mono ?_; rintro e w1 ⟨rfl, b1⟩; have HB1 := mkHid (bt (ba (ba (Below.refl _ W) _) _) b1); obtain ⟨⟨c0, c1, c2⟩, d0, d1, d2⟩ := And.intro ((S3.two W (k, q, p) (k', q', p')).1.below b1) ((S3.two W (k, q, p) (k', q', p')).2.below b1); clear b1)
    | (go_at_call 13; clear M1; refine (servers_ok _ _ [(k, q, p)] A B C D (svs_one w1 (k, q, p)) (by intro x hx; simp at hx; rw [hx]; exact HS.out) (by simp) HP.out).mono ?_; rintro e w2 ⟨rfl, b2⟩; have HB2 := mkHid (bt (ba HB1.out _) b2); obtain ⟨⟨c0', c1', c2'⟩, d0', d1', d2'⟩ := And.intro (((show S3 _ _ (k, q, p) from ⟨c0, c1, c2⟩).alloc _).below b2) (((show S3 _ _ (k', q', p') from ⟨d0, d1, d2⟩).alloc _).below b2); clear b2 c0 c1 c2 d0 d1 d2)
    | (go_at_call 13; refine (servers_ok _ _ [(k, q, p), (k', q', p')] F G I J (svs_two_at (w2.alloc (oP A B C D)) (w2.heap.size + 1) (by simp) (k, q, p) (k', q', p')) (by intro x hx; simp at hx; rcases hx with rfl | rfl; exact HS.out; exact HT.out) (by simp) HR.out).mono ?_; rintro e w3 ⟨rfl, b3⟩; have HB3 := mkHid (bt (ba (ba HB2.out _) _) b3); obtain ⟨⟨c0, c1, c2⟩, d0, d1, d2⟩ := And.intro ((((show S3 _ _ (k, q, p) from ⟨c0', c1', c2'⟩).alloc _).alloc _).below b3) ((((show S3 _ _ (k', q', p') from ⟨d0', d1', d2'⟩).alloc _).alloc _).below b3); obtain ⟨x0, x1, x2, x3⟩ := (((P4.new w2 A B C D).alloc _).below b3).cells; clear b3 c0' c1' c2' d0' d1' d2')
    | (go_at_call 17; clear M2; refine (within_ok _ (k, q, p) HP.out.a HP.out.b HP.out.c HP.out.e HS.out H1.out).mono ?_; rintro e w4 ⟨rfl, b4⟩; have HB4 := mkHid (bt (ba HB3.out _) b4); obtain ⟨⟨c0', c1', c2'⟩, d0', d1', d2'⟩ := And.intro (((show S3 _ _ (k, q, p) from ⟨c0, c1, c2⟩).alloc _).below b4) (((show S3 _ _ (k', q', p') from ⟨d0, d1, d2⟩).alloc _).below b4); have x0' := kc (kl x0 _) b4; have x1' := kc (kl x1 _) b4; have x2' := kc (kl x2 _) b4; have x3' := kc (kl x3 _) b4; obtain ⟨y0, y1, y2, y3⟩ := ((P4.new w3 F G I J).below b4).cells; clear b4 c0 c1 c2 d0 d1 d2 x0 x1 x2 x3)
    | (go_at_call 17; clear M3; refine (within_ok _ (k, q, p) HR.out.a HR.out.b HR.out.c HR.out.e HS.out H2.out).mono ?_; rintro e w5 ⟨rfl, b5⟩; have HB5 := mkHid (bt HB4.out b5); obtain ⟨⟨c0, c1, c2⟩, d0, d1, d2⟩ := And.intro ((show S3 _ _ (k, q, p) from ⟨c0', c1', c2'⟩).below b5) ((show S3 _ _ (k', q', p') from ⟨d0', d1', d2'⟩).below b5); have x0 := kc x0' b5; have x1 := kc x1' b5; have x2 := kc x2' b5; have x3 := kc x3' b5; have z0 := kc y0 b5; have z1 := kc y1 b5; have z2 := kc y2 b5; have z3 := kc y3 b5; clear b5 c0' c1' c2' d0' d1' d2' x0' x1' x2' x3' y0 y1 y2 y3)
    | (go_at_call 17; clear M4; refine (within_ok _ (k', q', p') HR.out.a HR.out.b HR.out.c HR.out.e HT.out H3.out).mono ?_; rintro e w6 ⟨rfl, b6⟩; have HB6 := mkHid (bt HB5.out b6); obtain ⟨c0', c1', c2'⟩ := ((show S3 _ _ (k, q, p) from ⟨c0, c1, c2⟩).below b6); have x0' := kc x0 b6; have x1' := kc x1 b6; have x2' := kc x2 b6; have x3' := kc x3 b6; clear b6 c0 c1 c2 d0 d1 d2 x0 x1 x2 x3 z0 z1 z2 z3)
    | (go_at_call 17; refine (within_whole _ HP.out.a HP.out.b HP.out.c HP.out.e H4.out).mono ?_; rintro e w7 ⟨rfl, b7⟩; have HB7 := mkHid (bt HB6.out b7); obtain ⟨c0, c1, c2⟩ := ((show S3 _ _ (k, q, p) from ⟨c0', c1', c2'⟩).below b7); clear b7 c0' c1' c2' x0' x1' x2' x3')
    | (go_at_call 24; refine (cross_is HS.out.i64.1 HS.out.i64.2 HI.out HI.out H5.out).mono ?_; rintro e w8 ⟨rfl, b8⟩; have HB8 := mkHid (bt HB7.out b8); clear b8 c0 c1 c2))
  go_ret
  exact ⟨rfl, HB8.out⟩
theorem parts_walk (W : World) (s t : Sv) (a : Addr) (E : Err W 0 text0 a) :
    Calls Tryd.prog 7 #[vS s, vS t] W fun e w' => e = .returned (.bool true) ∧ Below W.heap.size W w' := by
  by_cases hs : okS s
  · by_cases ht : okS t
    · exact parts_c W s t a E hs ht
    · exact parts_b W s t a E hs ht
  · exact parts_a W s t a E hs
end Go.Proofs.YtgmkhhaieolndaaDoor
