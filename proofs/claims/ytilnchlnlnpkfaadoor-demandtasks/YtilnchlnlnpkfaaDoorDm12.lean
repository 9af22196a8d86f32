/- The law DemandTasks. -/
import Derived.Test.YtilnchlnlnpkfaaDoorDm11
import Derived.Test.YtilnchlnlnpkfaaDoorDm9
namespace Go.Proofs.YtilnchlnlnpkfaaDoor
open Go.ChangeShapes Go.WideShapes Go.ChangeAt Go.RowKit
set_option maxRecDepth 100000
set_option maxRecDepth 100000
set_option linter.unusedVariables false
attribute [local go_sem] World.cell?_alloc_some frozen_alloc_some

theorem tks_of_owns_cap {w : World} {base : Nat} {v : Value} {xs : List Tk} (hl : (xs.length : Int) ≤ 9223372036854775807) (h : w.ownsRow base 52 4 v xs.length (xs.flatMap c4)) : ∃ a cap, v = .slice a xs.length cap ∧ Tks w (.slice a xs.length cap) xs ∧ xs.length ≤ cap := by
  obtain ⟨a, cap, rfl, ht⟩ := tks_of_owns hl h
  refine ⟨a, cap, rfl, ht, ?_⟩
  obtain ⟨_, ⟨e, hn⟩ | ⟨g, cap', cur, e, hbg, hg, hnc, _⟩⟩ := h
  · rw [hn]; exact Nat.zero_le _
  · cases e; exact hnc
theorem untils (w : World) (v : Value) (xs : List Tk) (i l : Int) (a : Nat → Addr) (h : Tks w v xs) (hc : ∀ a n c, v = .slice a n c → n ≤ c) (E : Er4 w a) :
    Calls Tryd.prog 23 #[v, .int .i64 i, .int .i64 l] w fun e w' => e = .returned (.tuple #[.int .i64 (if ucd xs i l = 0 then unt xs i.toNat l else 0), ev a (ucd xs i l)]) ∧ Below w.heap.size w w' := by
  obtain ⟨a0, cap, rfl, hl, h9⟩ := id h
  exact duntil w a0 cap xs i l a h E (hc _ _ _ rfl)
/-- The answers of both sides for a list of tasks, whatever comes in. -/
structure TskAns (xs : List Tk) (i l m n u X Y A B C D : Int) : Prop where
  cd : n = 0 ∨ n = 1 ∨ n = 7 ∨ n = 10 ∨ n = 11
  cu : u = 0 ∨ u = 1 ∨ u = 7 ∨ u = 10 ∨ u = 11
  p1 : ∀ w v a, Tks w v xs → Er4 w a → Calls Tryd.prog 22 #[v, .int .i64 l] w fun e w' => e = .returned (.tuple #[.int .i64 X, ev a n]) ∧ Below w.heap.size w w'
  p2 : ∀ w v a, Tks w v xs → (∀ a n c, v = .slice a n c → n ≤ c) → Er4 w a → Calls Tryd.prog 23 #[v, .int .i64 i, .int .i64 l] w fun e w' => e = .returned (.tuple #[.int .i64 Y, ev a u]) ∧ Below w.heap.size w w'
  rf : ∀ w v, Tks w v xs → Calls Tryd.prog 24 #[v] w fun e w' => e = .returned (.tuple #[vP A B C D, .int .i64 m]) ∧ Below w.heap.size w w'
  no : ¬ n = 0 → X = 0
  nu : ¬ u = 0 → Y = 0
  r1 : n = 0 → ∀ w v, Tks w v xs → Calls Tryd.prog 25 #[v, .int .i64 l] w fun e w' => e = .returned (.int .i64 X) ∧ Below w.heap.size w w'
  r2 : u = 0 → ∀ w v, Tks w v xs → Calls Tryd.prog 26 #[v, .int .i64 i, .int .i64 l] w fun e w' => e = .returned (.int .i64 Y) ∧ Below w.heap.size w w'
theorem tsk_ans (xs : List Tk) (i l : Int) : ∃ m n u X Y A B C D, TskAns xs i l m n u X Y A B C D ∧ (m = 0 → okTs xs) ∧ (¬ m = 0 → ¬ okTs xs) ∧
    ((¬ m = 0 ∧ n = m ∧ u = m) ∨ (m = 0 ∧ n = 1 ∧ u = 1 ∧ (l < 0 ∨ (0 ≤ l ∧ 1099511627776 < l))) ∨ (m = 0 ∧ n = 0 ∧ u = 1 ∧ (i < 0 ∨ (¬ i < 0 ∧ (xs.length : Int) ≤ i)) ∧ 0 ≤ l ∧ l ≤ 1099511627776) ∨ (m = 0 ∧ n = 0 ∧ u = 0 ∧ 0 ≤ i ∧ i < xs.length ∧ 0 ≤ l ∧ l ≤ 1099511627776)) := by
  rcases tcd_cases xs l with ⟨e, hx⟩ | ⟨e, hx, hl⟩ | ⟨e, hx, l0, l1⟩
  · have eu : ucd xs i l = 11 := by unfold ucd; rw [e]; exact if_neg (by decide)
    refine ⟨11, 11, 11, 0, 0, 0, 0, 0, 0, ⟨by omega, by omega, fun w v a h E => ?_, fun w v a h hc E => ?_, fun w v h => ?_, fun _ => rfl, fun _ => rfl, fun h => absurd h (by decide), fun h => absurd h (by decide)⟩, fun h => absurd h (by decide), fun _ => hx, .inl ⟨by decide, rfl, rfl⟩⟩
    · have := dtasks w v xs l a h E; rwa [e, if_neg (by decide)] at this
    · have := untils w v xs i l a h hc E; rwa [eu, if_neg (by decide)] at this
    · by_cases hn : xs.length ≤ 8
      · exact reftasks_short w v xs 0 0 0 0 11 h hn (fun ha => absurd ⟨hn, ha⟩ hx) (fun _ => ⟨rfl, rfl, rfl, rfl, rfl⟩)
      · exact reftasks_long w v xs h (by omega)
  · have eu : ucd xs i l = 1 := by unfold ucd; rw [e]; exact if_neg (by decide)
    obtain ⟨A, B, C, D, hp⟩ := sh_pt (xs.map cp) (fun y hy => by obtain ⟨x, hm, rfl⟩ := List.mem_map.mp hy; exact (hx.2 x hm).q) (by simpa using hx.1)
    refine ⟨0, 1, 1, 0, 0, A, B, C, D, ⟨by omega, by omega, fun w v a h E => ?_, fun w v a h hc E => ?_, fun w v h => ?_, fun _ => rfl, fun _ => rfl, fun h => absurd h (by decide), fun h => absurd h (by decide)⟩, fun _ => hx, fun h => absurd rfl h, .inr (.inl ⟨rfl, rfl, rfl, hl⟩)⟩
    · have := dtasks w v xs l a h E; rwa [e, if_neg (by decide)] at this
    · have := untils w v xs i l a h hc E; rwa [eu, if_neg (by decide)] at this
    · exact reftasks_short w v xs A B C D 0 h hx.1 (fun _ => ⟨hp, rfl⟩) (fun ⟨x, hm, hk⟩ => absurd (hx.2 x hm) hk)
  · obtain ⟨A, B, C, D, hp⟩ := sh_pt (xs.map cp) (fun y hy => by obtain ⟨x, hm, rfl⟩ := List.mem_map.mp hy; exact (hx.2 x hm).q) (by simpa using hx.1)
    have hr : ∀ w v, Tks w v xs → Calls Tryd.prog 24 #[v] w fun e w' => e = .returned (.tuple #[vP A B C D, .int .i64 0]) ∧ Below w.heap.size w w' := fun w v h => reftasks_short w v xs A B C D 0 h hx.1 (fun _ => ⟨hp, rfl⟩) (fun ⟨x, hm, hk⟩ => absurd (hx.2 x hm) hk)
    by_cases hi : 0 ≤ i ∧ i < xs.length
    · have eu : ucd xs i l = 0 := by unfold ucd; rw [e, if_pos rfl, if_pos hi]
      refine ⟨0, 0, 0, tsk xs l, unt xs i.toNat l, A, B, C, D, ⟨by omega, by omega, fun w v a h E => ?_, fun w v a h hc E => ?_, hr, fun h => absurd rfl h, fun h => absurd rfl h, fun _ w v h => rtasks_is w v xs l h hx l0 l1, fun _ w v h => ?_⟩, fun _ => hx, fun h => absurd rfl h, .inr (.inr (.inr ⟨rfl, rfl, rfl, hi.1, hi.2, l0, l1⟩))⟩
      · have := dtasks w v xs l a h E; rwa [e, if_pos rfl] at this
      · have := untils w v xs i l a h hc E; rwa [eu, if_pos rfl] at this
      · obtain ⟨k, rfl⟩ := Int.eq_ofNat_of_zero_le hi.1
        exact runtil_is w v xs k l h hx l0 l1 (by omega)
    · have eu : ucd xs i l = 1 := by unfold ucd; rw [e, if_pos rfl, if_neg hi]
      refine ⟨0, 0, 1, tsk xs l, 0, A, B, C, D, ⟨by omega, by omega, fun w v a h E => ?_, fun w v a h hc E => ?_, hr, fun h => absurd rfl h, fun _ => rfl, fun _ w v h => rtasks_is w v xs l h hx l0 l1, fun h => absurd h (by decide)⟩, fun _ => hx, fun h => absurd rfl h, .inr (.inr (.inl ⟨rfl, rfl, rfl, by omega, l0, l1⟩))⟩
      · have := dtasks w v xs l a h E; rwa [e, if_pos rfl] at this
      · have := untils w v xs i l a h hc E; rwa [eu, if_neg (by decide)] at this
theorem tcd_one_no {t : Tk} (h : ¬ okT t) (l : Int) : tcd [t] l = 11 := by
  rcases tcd_cases [t] l with ⟨e, _⟩ | ⟨_, hx, _⟩ | ⟨_, hx, _⟩
  · exact e
  · exact absurd (hx.2 t (by simp)) h
  · exact absurd (hx.2 t (by simp)) h
theorem tcd_one_num {t : Tk} (h : okT t) {l : Int} (hl : l < 0 ∨ (0 ≤ l ∧ 1099511627776 < l)) : tcd [t] l = 1 := by
  rcases tcd_cases [t] l with ⟨_, hx⟩ | ⟨e, _⟩ | ⟨_, _, l0, l1⟩
  · exact absurd ⟨by simp, fun x hx => by simp at hx; rw [hx]; exact h⟩ hx
  · exact e
  · omega
theorem taskA_no (w : World) (s : Tk) (l : Int) (a : Nat → Addr) (E : Er4 w a) (h : ¬ okT s) : Ans w 27 #[vT s, .int .i64 l] (.tuple #[.int .i64 0, vE (a 2)]) := fun W hb => task_err W s l 11 a (E.late hb) (tcd_one_no h l) (.inl rfl)
theorem taskA_num (w : World) (s : Tk) (l : Int) (a : Nat → Addr) (E : Er4 w a) (h : okT s) (hl : l < 0 ∨ (0 ≤ l ∧ 1099511627776 < l)) : Ans w 27 #[vT s, .int .i64 l] (.tuple #[.int .i64 0, vE (a 1)]) := fun W hb => task_err W s l 1 a (E.late hb) (tcd_one_num h hl) (.inr rfl)
def capOf : Value → Nat
  | .slice _ _ c => c
  | _ => 0
set_option maxHeartbeats 12800000 in
theorem tasks_pi (w : World) (v : Value) (xs : List Tk) (i l : Int) (ad : Nat → Addr) (E : Errs w ad) (h : Tks w v xs) (hl32 : xs.length * 32 ≤ 140737488355328) {m n u X Y A B C D : Int} (ha : TskAns xs i l m n u X Y A B C D) (hm : ¬ m = 0) (hnm : n = m) (hum : u = m) (hp : 0 < xs.length) (hs : ¬ okT (xs.getD 0 (0, 0, 0, 0))) : Calls Tryd.prog 4 #[v, .int .i64 i, .int .i64 l] w fun e w' => e = .returned (.bool true) ∧ Below w.heap.size w w' := by
  have HAL : Hid (Ans w 9 #[] (.bool true)) := mkHid (fun W hb => dalive W ad (E.late hb).er3)
  have HA := mkHid ha
  have HE := mkHid E
  have HS := mkHid h
  have HL := mkHid hl32
  obtain rfl := ha.no (by rw [hnm]; exact hm)
  obtain rfl := ha.nu (by rw [hum]; exact hm)
  subst hnm
  subst hum
  have hli : (0 : Int) < xs.length := by omega
  have hln : ¬ (xs.length : Int) = 0 := by omega
  obtain ⟨sb, so, c, p, d, r, hsa, hx0, _⟩ : ∃ sb so c p d r, v = .slice (some ⟨sb, so, none⟩) xs.length (capOf v) ∧ xs[0]? = some (c, p, d, r) ∧ True := by
    obtain ⟨a, cap, rfl, _, _⟩ := id h
    obtain ⟨b, off, c, p, d, s, rfl, hx0, _⟩ := h.at (Below.refl _ _) 0 hp
    exact ⟨b, off, c, p, d, s, rfl, hx0, trivial⟩
  generalize capOf v = sc at hsa
  subst hsa
  have hsl : (xs.length : Int) ≤ 9223372036854775807 := by omega
  have HAT : Hid (∀ W, Below w.heap.size w W → TkAt W sb so (c, p, d, r)) := mkHid (fun W hb => by
    obtain ⟨b', off', c', p', d', s', e, e0, q0, q1, q2, q3⟩ := HS.out.at hb 0 hp
    cases e
    rw [hx0] at e0
    cases e0
    simp only [Nat.zero_mul, Nat.add_zero] at q0 q1 q2 q3
    exact ⟨q0, q1, q2, q3⟩)
  have hsv : xs.getD 0 (0, 0, 0, 0) = (c, p, d, r) := by rw [List.getD_eq_getElem?_getD, hx0]; rfl
  rw [hsv] at hs
  have H2 := mkHid (taskA_no w (c, p, d, r) l ad E.er4 hs)
  have H4 := mkHid (reflegalT w (c, p, d, r) false (bT_false hs))
  have heq := fun W => (E.is_task).eq W
  clear hs hsv hx0 hp
  obtain ⟨je, hje⟩ : ∃ ie, Hid (Tryd.prog.info? 52 = some ie ∧ ie.zero = some (.agg #[.int .i64 0, .int .i64 0, .int .i64 0, .int .i64 0]) ∧ ie.size = 4 ∧ ie.bytes = 32) := by
    obtain ⟨ie, h1, h2, h3, h4⟩ := info_parts info_task
    exact ⟨ie, mkHid ⟨h1, h2, h3, h4⟩⟩

  clear E h hl32 ha
  have M1 : Hid True := mkHid trivial
  have M2 : Hid True := mkHid trivial
  have M3 : Hid True := mkHid trivial
  have M4 : Hid True := mkHid trivial
  have M5 : Hid True := mkHid trivial
  have M6 : Hid True := mkHid trivial
  have M7 : Hid True := mkHid trivial
  have M8 : Hid True := mkHid trivial
  have M9 : Hid True := mkHid trivial
  have M10 : Hid True := mkHid trivial
  go_enter Tryd.func4, Tryd.ntmps4
  go_wp2_with (first
    | (go_at_call 9; clear M1; refine (HAL.out _ (Below.refl _ _)).mono ?_; rintro e w1 ⟨rfl, b1⟩; have HB1 := mkHid b1; clear b1)
    | (at_builtin; clear M2; have hm := World.ownsRow_made (base := w1.heap.size) (e := 52) (size := 4) w1 #[] 0 (Nat.le_refl _) (by unfold maxLen; omega) rfl; refine wpList_append_src4 _ rfl (.tmp 19) (.tmp 20) 44 44 rfl w1.heap.size 52 je Tryd.underlying44 hje.out.1 (.agg #[.int .i64 0, .int .i64 0, .int .i64 0, .int .i64 0]) 32 hje.out.2.1 rfl hje.out.2.2.1 hje.out.2.2.2 (.slice (some ⟨w1.heap.size, 0, none⟩) 0 0) 0 [] rfl hm (.slice (some ⟨sb, so, none⟩) xs.length sc) xs.length (xs.flatMap c4) rfl (HS.out.below (ba HB1.out _)).src (by have := HL.out; unfold maxLen; omega) (by have := HL.out; omega) (by simp) ?_; intro v4 w2 ho4 hg4 hat4; rw [Nat.zero_add, List.nil_append] at ho4; have b2 : Below w1.heap.size w1 w2 := ((Below.refl _ w1).alloc (Nat.le_refl _) (.cells #[] 52)).grown hg4 (by simp) (fun k hk => by simp [Value.ownBlock] at hk; omega); have HB2 := mkHid (bt HB1.out b2); obtain ⟨p2, r2, rfl, ht4, hq4⟩ := tks_of_owns_cap (xs := xs) (by omega) ho4; have HV2 := mkHid (And.intro ht4 hq4); clear hm ho4 hg4 hat4 b2 ht4 hq4)
    | (go_at_call 22; clear M3; refine (HA.out.p1 _ _ ad HV2.out.1 (HE.out.late HB2.out).er4).mono ?_; rintro e w3 ⟨rfl, b3⟩; have HB3 := mkHid (bt HB2.out b3); clear b3)
    | (at_builtin; clear M4; have hm := World.ownsRow_made (base := w3.heap.size) (e := 52) (size := 4) w3 #[] 0 (Nat.le_refl _) (by unfold maxLen; omega) rfl; refine wpList_append_src4 _ rfl (.tmp 27) (.tmp 28) 44 44 rfl w3.heap.size 52 je Tryd.underlying44 hje.out.1 (.agg #[.int .i64 0, .int .i64 0, .int .i64 0, .int .i64 0]) 32 hje.out.2.1 rfl hje.out.2.2.1 hje.out.2.2.2 (.slice (some ⟨w3.heap.size, 0, none⟩) 0 0) 0 [] rfl hm (.slice (some ⟨sb, so, none⟩) xs.length sc) xs.length (xs.flatMap c4) rfl (HS.out.below (ba HB3.out _)).src (by have := HL.out; unfold maxLen; omega) (by have := HL.out; omega) (by simp) ?_; intro v4 w4 ho4 hg4 hat4; rw [Nat.zero_add, List.nil_append] at ho4; have b4 : Below w3.heap.size w3 w4 := ((Below.refl _ w3).alloc (Nat.le_refl _) (.cells #[] 52)).grown hg4 (by simp) (fun k hk => by simp [Value.ownBlock] at hk; omega); have HB4 := mkHid (bt HB3.out b4); obtain ⟨p4, r4, rfl, ht4, hq4⟩ := tks_of_owns_cap (xs := xs) (by omega) ho4; have HV4 := mkHid (And.intro ht4 hq4); clear hm ho4 hg4 hat4 b4 ht4 hq4)
    | (go_at_call 23; clear M5; refine (HA.out.p2 _ _ ad HV4.out.1 (fun a n c e => by cases e; exact HV4.out.2) (HE.out.late HB4.out).er4).mono ?_; rintro e w5 ⟨rfl, b5⟩; have HB5 := mkHid (bt HB4.out b5); clear b5)
    | (go_at_call 24; clear M6; refine (HA.out.rf _ _ (HS.out.below HB5.out)).mono ?_; rintro e w6 ⟨rfl, b6⟩; have HB6 := mkHid (bt HB5.out b6); clear b6)
    | (go_at_call 14; clear M7; refine (num_ev _ ad (HE.out.late (ba HB6.out _)) _ HA.out.cd).mono ?_; rintro e w7 ⟨rfl, b7⟩; have HB7 := mkHid (bt (ba HB6.out _) b7); clear b7)
    | (go_at_call 14; clear M8; refine (num_ev _ ad (HE.out.late HB7.out) _ HA.out.cu).mono ?_; rintro e w8 ⟨rfl, b8⟩; have HB8 := mkHid (bt HB7.out b8); have hc8 := HAT.out _ HB8.out; obtain ⟨tc8, tp8, td8, tt8⟩ := hc8; clear b8)
    | (go_at_call 27; clear M9; refine (H2.out _ HB8.out).mono ?_; rintro e w9 ⟨rfl, b9⟩; have HB9 := mkHid (bt HB8.out b9); have hc9 := HAT.out _ HB9.out; obtain ⟨tc9, tp9, td9, tt9⟩ := hc9; have gtask_9 := (HE.out.late HB9.out).cell_task; clear tc8 tp8 td8 tt8; clear b9)
    | (go_at_call 28; clear M10; refine (H4.out _ HB9.out).mono ?_; rintro e w10 ⟨rfl, b10⟩; have HB10 := mkHid (bt HB9.out b10); have hc10 := HAT.out _ HB10.out; obtain ⟨tc10, tp10, td10, tt10⟩ := hc10; have gtask_10 := (HE.out.late HB10.out).cell_task; clear tc9 tp9 td9 tt9; clear gtask_9; clear b10))
  go_ret
  exact ⟨rfl, HB10.out⟩
set_option maxHeartbeats 12800000 in
theorem tasks_pj (w : World) (v : Value) (xs : List Tk) (i l : Int) (ad : Nat → Addr) (E : Errs w ad) (h : Tks w v xs) (hl32 : xs.length * 32 ≤ 140737488355328) {m n u X Y A B C D : Int} (ha : TskAns xs i l m n u X Y A B C D) (hm : ¬ m = 0) (hnm : n = m) (hum : u = m) (hp : 0 < xs.length) (hs : okT (xs.getD 0 (0, 0, 0, 0))) (hlc : l < 0 ∨ (0 ≤ l ∧ 1099511627776 < l)) : Calls Tryd.prog 4 #[v, .int .i64 i, .int .i64 l] w fun e w' => e = .returned (.bool true) ∧ Below w.heap.size w w' := by
  have HAL : Hid (Ans w 9 #[] (.bool true)) := mkHid (fun W hb => dalive W ad (E.late hb).er3)
  have HA := mkHid ha
  have HE := mkHid E
  have HS := mkHid h
  have HL := mkHid hl32
  obtain rfl := ha.no (by rw [hnm]; exact hm)
  obtain rfl := ha.nu (by rw [hum]; exact hm)
  subst hnm
  subst hum
  have hli : (0 : Int) < xs.length := by omega
  have hln : ¬ (xs.length : Int) = 0 := by omega
  obtain ⟨sb, so, c, p, d, r, hsa, hx0, _⟩ : ∃ sb so c p d r, v = .slice (some ⟨sb, so, none⟩) xs.length (capOf v) ∧ xs[0]? = some (c, p, d, r) ∧ True := by
    obtain ⟨a, cap, rfl, _, _⟩ := id h
    obtain ⟨b, off, c, p, d, s, rfl, hx0, _⟩ := h.at (Below.refl _ _) 0 hp
    exact ⟨b, off, c, p, d, s, rfl, hx0, trivial⟩
  generalize capOf v = sc at hsa
  subst hsa
  have hsl : (xs.length : Int) ≤ 9223372036854775807 := by omega
  have HAT : Hid (∀ W, Below w.heap.size w W → TkAt W sb so (c, p, d, r)) := mkHid (fun W hb => by
    obtain ⟨b', off', c', p', d', s', e, e0, q0, q1, q2, q3⟩ := HS.out.at hb 0 hp
    cases e
    rw [hx0] at e0
    cases e0
    simp only [Nat.zero_mul, Nat.add_zero] at q0 q1 q2 q3
    exact ⟨q0, q1, q2, q3⟩)
  have hsv : xs.getD 0 (0, 0, 0, 0) = (c, p, d, r) := by rw [List.getD_eq_getElem?_getD, hx0]; rfl
  rw [hsv] at hs
  have H2 := mkHid (taskA_num w (c, p, d, r) l ad E.er4 hs hlc)
  have H4 := mkHid (reflegalT w (c, p, d, r) true (bT_true hs))
  have heq := fun W => (E.is_number).eq W
  have HG : Hid (Ans w 13 #[.int .i64 l] (.bool false)) := mkHid (fun W _ => good_no W l hlc)
  clear hs hsv hx0 hp hlc
  obtain ⟨je, hje⟩ : ∃ ie, Hid (Tryd.prog.info? 52 = some ie ∧ ie.zero = some (.agg #[.int .i64 0, .int .i64 0, .int .i64 0, .int .i64 0]) ∧ ie.size = 4 ∧ ie.bytes = 32) := by
    obtain ⟨ie, h1, h2, h3, h4⟩ := info_parts info_task
    exact ⟨ie, mkHid ⟨h1, h2, h3, h4⟩⟩

  clear E h hl32 ha
  have M1 : Hid True := mkHid trivial
  have M2 : Hid True := mkHid trivial
  have M3 : Hid True := mkHid trivial
  have M4 : Hid True := mkHid trivial
  have M5 : Hid True := mkHid trivial
  have M6 : Hid True := mkHid trivial
  have M7 : Hid True := mkHid trivial
  have M8 : Hid True := mkHid trivial
  have M9 : Hid True := mkHid trivial
  have M10 : Hid True := mkHid trivial
  have M11 : Hid True := mkHid trivial
  go_enter Tryd.func4, Tryd.ntmps4
  go_wp2_with (first
    | (go_at_call 9; clear M1; refine (HAL.out _ (Below.refl _ _)).mono ?_; rintro e w1 ⟨rfl, b1⟩; have HB1 := mkHid b1; clear b1)
    | (at_builtin; clear M2; have hm := World.ownsRow_made (base := w1.heap.size) (e := 52) (size := 4) w1 #[] 0 (Nat.le_refl _) (by unfold maxLen; omega) rfl; refine wpList_append_src4 _ rfl (.tmp 19) (.tmp 20) 44 44 rfl w1.heap.size 52 je Tryd.underlying44 hje.out.1 (.agg #[.int .i64 0, .int .i64 0, .int .i64 0, .int .i64 0]) 32 hje.out.2.1 rfl hje.out.2.2.1 hje.out.2.2.2 (.slice (some ⟨w1.heap.size, 0, none⟩) 0 0) 0 [] rfl hm (.slice (some ⟨sb, so, none⟩) xs.length sc) xs.length (xs.flatMap c4) rfl (HS.out.below (ba HB1.out _)).src (by have := HL.out; unfold maxLen; omega) (by have := HL.out; omega) (by simp) ?_; intro v4 w2 ho4 hg4 hat4; rw [Nat.zero_add, List.nil_append] at ho4; have b2 : Below w1.heap.size w1 w2 := ((Below.refl _ w1).alloc (Nat.le_refl _) (.cells #[] 52)).grown hg4 (by simp) (fun k hk => by simp [Value.ownBlock] at hk; omega); have HB2 := mkHid (bt HB1.out b2); obtain ⟨p2, r2, rfl, ht4, hq4⟩ := tks_of_owns_cap (xs := xs) (by omega) ho4; have HV2 := mkHid (And.intro ht4 hq4); clear hm ho4 hg4 hat4 b2 ht4 hq4)
    | (go_at_call 22; clear M3; refine (HA.out.p1 _ _ ad HV2.out.1 (HE.out.late HB2.out).er4).mono ?_; rintro e w3 ⟨rfl, b3⟩; have HB3 := mkHid (bt HB2.out b3); clear b3)
    | (at_builtin; clear M4; have hm := World.ownsRow_made (base := w3.heap.size) (e := 52) (size := 4) w3 #[] 0 (Nat.le_refl _) (by unfold maxLen; omega) rfl; refine wpList_append_src4 _ rfl (.tmp 27) (.tmp 28) 44 44 rfl w3.heap.size 52 je Tryd.underlying44 hje.out.1 (.agg #[.int .i64 0, .int .i64 0, .int .i64 0, .int .i64 0]) 32 hje.out.2.1 rfl hje.out.2.2.1 hje.out.2.2.2 (.slice (some ⟨w3.heap.size, 0, none⟩) 0 0) 0 [] rfl hm (.slice (some ⟨sb, so, none⟩) xs.length sc) xs.length (xs.flatMap c4) rfl (HS.out.below (ba HB3.out _)).src (by have := HL.out; unfold maxLen; omega) (by have := HL.out; omega) (by simp) ?_; intro v4 w4 ho4 hg4 hat4; rw [Nat.zero_add, List.nil_append] at ho4; have b4 : Below w3.heap.size w3 w4 := ((Below.refl _ w3).alloc (Nat.le_refl _) (.cells #[] 52)).grown hg4 (by simp) (fun k hk => by simp [Value.ownBlock] at hk; omega); have HB4 := mkHid (bt HB3.out b4); obtain ⟨p4, r4, rfl, ht4, hq4⟩ := tks_of_owns_cap (xs := xs) (by omega) ho4; have HV4 := mkHid (And.intro ht4 hq4); clear hm ho4 hg4 hat4 b4 ht4 hq4)
    | (go_at_call 23; clear M5; refine (HA.out.p2 _ _ ad HV4.out.1 (fun a n c e => by cases e; exact HV4.out.2) (HE.out.late HB4.out).er4).mono ?_; rintro e w5 ⟨rfl, b5⟩; have HB5 := mkHid (bt HB4.out b5); clear b5)
    | (go_at_call 24; clear M6; refine (HA.out.rf _ _ (HS.out.below HB5.out)).mono ?_; rintro e w6 ⟨rfl, b6⟩; have HB6 := mkHid (bt HB5.out b6); clear b6)
    | (go_at_call 14; clear M7; refine (num_ev _ ad (HE.out.late (ba HB6.out _)) _ HA.out.cd).mono ?_; rintro e w7 ⟨rfl, b7⟩; have HB7 := mkHid (bt (ba HB6.out _) b7); clear b7)
    | (go_at_call 14; clear M8; refine (num_ev _ ad (HE.out.late HB7.out) _ HA.out.cu).mono ?_; rintro e w8 ⟨rfl, b8⟩; have HB8 := mkHid (bt HB7.out b8); have hc8 := HAT.out _ HB8.out; obtain ⟨tc8, tp8, td8, tt8⟩ := hc8; clear b8)
    | (go_at_call 27; clear M9; refine (H2.out _ HB8.out).mono ?_; rintro e w9 ⟨rfl, b9⟩; have HB9 := mkHid (bt HB8.out b9); have hc9 := HAT.out _ HB9.out; obtain ⟨tc9, tp9, td9, tt9⟩ := hc9; have gnumber_9 := (HE.out.late HB9.out).cell_number; clear tc8 tp8 td8 tt8; clear b9)
    | (go_at_call 28; clear M10; refine (H4.out _ HB9.out).mono ?_; rintro e w10 ⟨rfl, b10⟩; have HB10 := mkHid (bt HB9.out b10); have hc10 := HAT.out _ HB10.out; obtain ⟨tc10, tp10, td10, tt10⟩ := hc10; have gnumber_10 := (HE.out.late HB10.out).cell_number; clear tc9 tp9 td9 tt9; clear gnumber_9; clear b10)
    | (go_at_call 13; clear M11; refine (HG.out _ HB10.out).mono ?_; rintro e w11 ⟨rfl, b11⟩; have HB11 := mkHid (bt HB10.out b11); have hc11 := HAT.out _ HB11.out; obtain ⟨tc11, tp11, td11, tt11⟩ := hc11; have gnumber_11 := (HE.out.late HB11.out).cell_number; clear tc10 tp10 td10 tt10; clear gnumber_10; clear b11))
  go_ret
  exact ⟨rfl, HB11.out⟩
set_option maxHeartbeats 12800000 in
theorem tasks_pk (w : World) (v : Value) (xs : List Tk) (i l : Int) (ad : Nat → Addr) (E : Errs w ad) (h : Tks w v xs) (hl32 : xs.length * 32 ≤ 140737488355328) {m n u X Y A B C D : Int} (ha : TskAns xs i l m n u X Y A B C D) (hm : ¬ m = 0) (hnm : n = m) (hum : u = m) (hp : 0 < xs.length) (hs : okT (xs.getD 0 (0, 0, 0, 0))) (c0 : 0 ≤ l) (c1 : l ≤ 1099511627776) : Calls Tryd.prog 4 #[v, .int .i64 i, .int .i64 l] w fun e w' => e = .returned (.bool true) ∧ Below w.heap.size w w' := by
  have HAL : Hid (Ans w 9 #[] (.bool true)) := mkHid (fun W hb => dalive W ad (E.late hb).er3)
  have HA := mkHid ha
  have HE := mkHid E
  have HS := mkHid h
  have HL := mkHid hl32
  obtain rfl := ha.no (by rw [hnm]; exact hm)
  obtain rfl := ha.nu (by rw [hum]; exact hm)
  subst hnm
  subst hum
  have hli : (0 : Int) < xs.length := by omega
  have hln : ¬ (xs.length : Int) = 0 := by omega
  obtain ⟨sb, so, c, p, d, r, hsa, hx0, _⟩ : ∃ sb so c p d r, v = .slice (some ⟨sb, so, none⟩) xs.length (capOf v) ∧ xs[0]? = some (c, p, d, r) ∧ True := by
    obtain ⟨a, cap, rfl, _, _⟩ := id h
    obtain ⟨b, off, c, p, d, s, rfl, hx0, _⟩ := h.at (Below.refl _ _) 0 hp
    exact ⟨b, off, c, p, d, s, rfl, hx0, trivial⟩
  generalize capOf v = sc at hsa
  subst hsa
  have hsl : (xs.length : Int) ≤ 9223372036854775807 := by omega
  have HAT : Hid (∀ W, Below w.heap.size w W → TkAt W sb so (c, p, d, r)) := mkHid (fun W hb => by
    obtain ⟨b', off', c', p', d', s', e, e0, q0, q1, q2, q3⟩ := HS.out.at hb 0 hp
    cases e
    rw [hx0] at e0
    cases e0
    simp only [Nat.zero_mul, Nat.add_zero] at q0 q1 q2 q3
    exact ⟨q0, q1, q2, q3⟩)
  have hsv : xs.getD 0 (0, 0, 0, 0) = (c, p, d, r) := by rw [List.getD_eq_getElem?_getD, hx0]; rfl
  rw [hsv] at hs
  have H2 := mkHid (taskA_yes w (c, p, d, r) l ad E.er4 hs c0 c1)
  have H4 := mkHid (reflegalT w (c, p, d, r) true (bT_true hs))
  have H5 : Hid (Ans w 29 #[vT (c, p, d, r), .int .i64 l] (.int .i64 (tdem (c, p, d, r) l))) := mkHid (fun W _ => rtdem_is W (c, p, d, r) l hs c0 c1)
  have HG : Hid (Ans w 13 #[.int .i64 l] (.bool true)) := mkHid (fun W _ => good_yes W l c0 c1)
  clear hs hsv hx0 hp
  generalize tdem (c, p, d, r) l = U at *
  obtain ⟨je, hje⟩ : ∃ ie, Hid (Tryd.prog.info? 52 = some ie ∧ ie.zero = some (.agg #[.int .i64 0, .int .i64 0, .int .i64 0, .int .i64 0]) ∧ ie.size = 4 ∧ ie.bytes = 32) := by
    obtain ⟨ie, h1, h2, h3, h4⟩ := info_parts info_task
    exact ⟨ie, mkHid ⟨h1, h2, h3, h4⟩⟩

  clear E h hl32 ha
  have M1 : Hid True := mkHid trivial
  have M2 : Hid True := mkHid trivial
  have M3 : Hid True := mkHid trivial
  have M4 : Hid True := mkHid trivial
  have M5 : Hid True := mkHid trivial
  have M6 : Hid True := mkHid trivial
  have M7 : Hid True := mkHid trivial
  have M8 : Hid True := mkHid trivial
  have M9 : Hid True := mkHid trivial
  have M10 : Hid True := mkHid trivial
  have M11 : Hid True := mkHid trivial
  have M12 : Hid True := mkHid trivial
  go_enter Tryd.func4, Tryd.ntmps4
  go_wp2_with (first
    | (go_at_call 9; clear M1; refine (HAL.out _ (Below.refl _ _)).mono ?_; rintro e w1 ⟨rfl, b1⟩; have HB1 := mkHid b1; clear b1)
    | (at_builtin; clear M2; have hm := World.ownsRow_made (base := w1.heap.size) (e := 52) (size := 4) w1 #[] 0 (Nat.le_refl _) (by unfold maxLen; omega) rfl; refine wpList_append_src4 _ rfl (.tmp 19) (.tmp 20) 44 44 rfl w1.heap.size 52 je Tryd.underlying44 hje.out.1 (.agg #[.int .i64 0, .int .i64 0, .int .i64 0, .int .i64 0]) 32 hje.out.2.1 rfl hje.out.2.2.1 hje.out.2.2.2 (.slice (some ⟨w1.heap.size, 0, none⟩) 0 0) 0 [] rfl hm (.slice (some ⟨sb, so, none⟩) xs.length sc) xs.length (xs.flatMap c4) rfl (HS.out.below (ba HB1.out _)).src (by have := HL.out; unfold maxLen; omega) (by have := HL.out; omega) (by simp) ?_; intro v4 w2 ho4 hg4 hat4; rw [Nat.zero_add, List.nil_append] at ho4; have b2 : Below w1.heap.size w1 w2 := ((Below.refl _ w1).alloc (Nat.le_refl _) (.cells #[] 52)).grown hg4 (by simp) (fun k hk => by simp [Value.ownBlock] at hk; omega); have HB2 := mkHid (bt HB1.out b2); obtain ⟨p2, r2, rfl, ht4, hq4⟩ := tks_of_owns_cap (xs := xs) (by omega) ho4; have HV2 := mkHid (And.intro ht4 hq4); clear hm ho4 hg4 hat4 b2 ht4 hq4)
    | (go_at_call 22; clear M3; refine (HA.out.p1 _ _ ad HV2.out.1 (HE.out.late HB2.out).er4).mono ?_; rintro e w3 ⟨rfl, b3⟩; have HB3 := mkHid (bt HB2.out b3); clear b3)
    | (at_builtin; clear M4; have hm := World.ownsRow_made (base := w3.heap.size) (e := 52) (size := 4) w3 #[] 0 (Nat.le_refl _) (by unfold maxLen; omega) rfl; refine wpList_append_src4 _ rfl (.tmp 27) (.tmp 28) 44 44 rfl w3.heap.size 52 je Tryd.underlying44 hje.out.1 (.agg #[.int .i64 0, .int .i64 0, .int .i64 0, .int .i64 0]) 32 hje.out.2.1 rfl hje.out.2.2.1 hje.out.2.2.2 (.slice (some ⟨w3.heap.size, 0, none⟩) 0 0) 0 [] rfl hm (.slice (some ⟨sb, so, none⟩) xs.length sc) xs.length (xs.flatMap c4) rfl (HS.out.below (ba HB3.out _)).src (by have := HL.out; unfold maxLen; omega) (by have := HL.out; omega) (by simp) ?_; intro v4 w4 ho4 hg4 hat4; rw [Nat.zero_add, List.nil_append] at ho4; have b4 : Below w3.heap.size w3 w4 := ((Below.refl _ w3).alloc (Nat.le_refl _) (.cells #[] 52)).grown hg4 (by simp) (fun k hk => by simp [Value.ownBlock] at hk; omega); have HB4 := mkHid (bt HB3.out b4); obtain ⟨p4, r4, rfl, ht4, hq4⟩ := tks_of_owns_cap (xs := xs) (by omega) ho4; have HV4 := mkHid (And.intro ht4 hq4); clear hm ho4 hg4 hat4 b4 ht4 hq4)
    | (go_at_call 23; clear M5; refine (HA.out.p2 _ _ ad HV4.out.1 (fun a n c e => by cases e; exact HV4.out.2) (HE.out.late HB4.out).er4).mono ?_; rintro e w5 ⟨rfl, b5⟩; have HB5 := mkHid (bt HB4.out b5); clear b5)
    | (go_at_call 24; clear M6; refine (HA.out.rf _ _ (HS.out.below HB5.out)).mono ?_; rintro e w6 ⟨rfl, b6⟩; have HB6 := mkHid (bt HB5.out b6); clear b6)
    | (go_at_call 14; clear M7; refine (num_ev _ ad (HE.out.late (ba HB6.out _)) _ HA.out.cd).mono ?_; rintro e w7 ⟨rfl, b7⟩; have HB7 := mkHid (bt (ba HB6.out _) b7); clear b7)
    | (go_at_call 14; clear M8; refine (num_ev _ ad (HE.out.late HB7.out) _ HA.out.cu).mono ?_; rintro e w8 ⟨rfl, b8⟩; have HB8 := mkHid (bt HB7.out b8); have hc8 := HAT.out _ HB8.out; obtain ⟨tc8, tp8, td8, tt8⟩ := hc8; clear b8)
    | (go_at_call 27; clear M9; refine (H2.out _ HB8.out).mono ?_; rintro e w9 ⟨rfl, b9⟩; have HB9 := mkHid (bt HB8.out b9); have hc9 := HAT.out _ HB9.out; obtain ⟨tc9, tp9, td9, tt9⟩ := hc9; clear tc8 tp8 td8 tt8; clear b9)
    | (go_at_call 28; clear M10; refine (H4.out _ HB9.out).mono ?_; rintro e w10 ⟨rfl, b10⟩; have HB10 := mkHid (bt HB9.out b10); have hc10 := HAT.out _ HB10.out; obtain ⟨tc10, tp10, td10, tt10⟩ := hc10; clear tc9 tp9 td9 tt9; clear b10)
    | (go_at_call 13; clear M11; refine (HG.out _ HB10.out).mono ?_; rintro e w11 ⟨rfl, b11⟩; have HB11 := mkHid (bt HB10.out b11); have hc11 := HAT.out _ HB11.out; obtain ⟨tc11, tp11, td11, tt11⟩ := hc11; clear tc10 tp10 td10 tt10; clear b11)
    | (go_at_call 29; clear M12; refine (H5.out _ HB11.out).mono ?_; rintro e w12 ⟨rfl, b12⟩; have HB12 := mkHid (bt HB11.out b12); have hc12 := HAT.out _ HB12.out; obtain ⟨tc12, tp12, td12, tt12⟩ := hc12; clear tc11 tp11 td11 tt11; clear b12))
  go_ret
  exact ⟨rfl, HB12.out⟩
set_option maxHeartbeats 12800000 in
theorem tasks_qe (w : World) (v : Value) (xs : List Tk) (i l : Int) (ad : Nat → Addr) (E : Errs w ad) (h : Tks w v xs) (hl32 : xs.length * 32 ≤ 140737488355328) {m n u X Y A B C D : Int} (ha : TskAns xs i l m n u X Y A B C D) (hm0 : m = 0) (hn1 : n = 1) (hu1 : u = 1) (hlb : l < 0 ∨ (0 ≤ l ∧ 1099511627776 < l)) (hp : xs.length = 0) : Calls Tryd.prog 4 #[v, .int .i64 i, .int .i64 l] w fun e w' => e = .returned (.bool true) ∧ Below w.heap.size w w' := by
  have HAL : Hid (Ans w 9 #[] (.bool true)) := mkHid (fun W hb => dalive W ad (E.late hb).er3)
  have HA := mkHid ha
  have HE := mkHid E
  have HS := mkHid h
  have HL := mkHid hl32
  subst hm0
  subst hn1
  subst hu1
  obtain rfl := ha.no (by decide)
  obtain rfl := ha.nu (by decide)
  have HG : Hid (Ans w 13 #[.int .i64 l] (.bool false)) := mkHid (fun W _ => good_no W l hlb)
  have HLN : Hid ((xs.length : Int) = 0) := mkHid (by omega)
  clear hp
  obtain ⟨je, hje⟩ : ∃ ie, Hid (Tryd.prog.info? 52 = some ie ∧ ie.zero = some (.agg #[.int .i64 0, .int .i64 0, .int .i64 0, .int .i64 0]) ∧ ie.size = 4 ∧ ie.bytes = 32) := by
    obtain ⟨ie, h1, h2, h3, h4⟩ := info_parts info_task
    exact ⟨ie, mkHid ⟨h1, h2, h3, h4⟩⟩
  obtain ⟨sa, sc, rfl, hsl, h9⟩ := id h
  clear E h hl32 ha h9
  have M1 : Hid True := mkHid trivial
  have M2 : Hid True := mkHid trivial
  have M3 : Hid True := mkHid trivial
  have M4 : Hid True := mkHid trivial
  have M5 : Hid True := mkHid trivial
  have M6 : Hid True := mkHid trivial
  have M7 : Hid True := mkHid trivial
  have M8 : Hid True := mkHid trivial
  have M9 : Hid True := mkHid trivial
  go_enter Tryd.func4, Tryd.ntmps4
  go_wp2_with (first
    | (go_at_call 9; clear M1; refine (HAL.out _ (Below.refl _ _)).mono ?_; rintro e w1 ⟨rfl, b1⟩; have HB1 := mkHid b1; clear b1)
    | (at_builtin; clear M2; have hm := World.ownsRow_made (base := w1.heap.size) (e := 52) (size := 4) w1 #[] 0 (Nat.le_refl _) (by unfold maxLen; omega) rfl; refine wpList_append_src4 _ rfl (.tmp 19) (.tmp 20) 44 44 rfl w1.heap.size 52 je Tryd.underlying44 hje.out.1 (.agg #[.int .i64 0, .int .i64 0, .int .i64 0, .int .i64 0]) 32 hje.out.2.1 rfl hje.out.2.2.1 hje.out.2.2.2 (.slice (some ⟨w1.heap.size, 0, none⟩) 0 0) 0 [] rfl hm (.slice sa xs.length sc) xs.length (xs.flatMap c4) rfl (HS.out.below (ba HB1.out _)).src (by have := HL.out; unfold maxLen; omega) (by have := HL.out; omega) (by simp) ?_; intro v4 w2 ho4 hg4 hat4; rw [Nat.zero_add, List.nil_append] at ho4; have b2 : Below w1.heap.size w1 w2 := ((Below.refl _ w1).alloc (Nat.le_refl _) (.cells #[] 52)).grown hg4 (by simp) (fun k hk => by simp [Value.ownBlock] at hk; omega); have HB2 := mkHid (bt HB1.out b2); obtain ⟨p2, r2, rfl, ht4, hq4⟩ := tks_of_owns_cap (xs := xs) (by omega) ho4; have HV2 := mkHid (And.intro ht4 hq4); clear hm ho4 hg4 hat4 b2 ht4 hq4)
    | (go_at_call 22; clear M3; refine (HA.out.p1 _ _ ad HV2.out.1 (HE.out.late HB2.out).er4).mono ?_; rintro e w3 ⟨rfl, b3⟩; have HB3 := mkHid (bt HB2.out b3); clear b3)
    | (at_builtin; clear M4; have hm := World.ownsRow_made (base := w3.heap.size) (e := 52) (size := 4) w3 #[] 0 (Nat.le_refl _) (by unfold maxLen; omega) rfl; refine wpList_append_src4 _ rfl (.tmp 27) (.tmp 28) 44 44 rfl w3.heap.size 52 je Tryd.underlying44 hje.out.1 (.agg #[.int .i64 0, .int .i64 0, .int .i64 0, .int .i64 0]) 32 hje.out.2.1 rfl hje.out.2.2.1 hje.out.2.2.2 (.slice (some ⟨w3.heap.size, 0, none⟩) 0 0) 0 [] rfl hm (.slice sa xs.length sc) xs.length (xs.flatMap c4) rfl (HS.out.below (ba HB3.out _)).src (by have := HL.out; unfold maxLen; omega) (by have := HL.out; omega) (by simp) ?_; intro v4 w4 ho4 hg4 hat4; rw [Nat.zero_add, List.nil_append] at ho4; have b4 : Below w3.heap.size w3 w4 := ((Below.refl _ w3).alloc (Nat.le_refl _) (.cells #[] 52)).grown hg4 (by simp) (fun k hk => by simp [Value.ownBlock] at hk; omega); have HB4 := mkHid (bt HB3.out b4); obtain ⟨p4, r4, rfl, ht4, hq4⟩ := tks_of_owns_cap (xs := xs) (by omega) ho4; have HV4 := mkHid (And.intro ht4 hq4); clear hm ho4 hg4 hat4 b4 ht4 hq4)
    | (go_at_call 23; clear M5; refine (HA.out.p2 _ _ ad HV4.out.1 (fun a n c e => by cases e; exact HV4.out.2) (HE.out.late HB4.out).er4).mono ?_; rintro e w5 ⟨rfl, b5⟩; have HB5 := mkHid (bt HB4.out b5); clear b5)
    | (go_at_call 24; clear M6; refine (HA.out.rf _ _ (HS.out.below HB5.out)).mono ?_; rintro e w6 ⟨rfl, b6⟩; have HB6 := mkHid (bt HB5.out b6); clear b6)
    | (go_at_call 13; clear M7; refine (HG.out _ (ba HB6.out _)).mono ?_; rintro e w7 ⟨rfl, b7⟩; have HB7 := mkHid (bt (ba HB6.out _) b7); clear b7)
    | (go_at_call 14; clear M8; refine (num_ev _ ad (HE.out.late HB7.out) 1 HA.out.cd).mono ?_; rintro e w8 ⟨rfl, b8⟩; have HB8 := mkHid (bt HB7.out b8); clear b8)
    | (go_at_call 14; clear M9; refine (num_ev _ ad (HE.out.late HB8.out) 1 HA.out.cu).mono ?_; rintro e w9 ⟨rfl, b9⟩; have HB9 := mkHid (bt HB8.out b9); have hln := HLN.out; clear b9))
  go_ret
  exact ⟨rfl, HB9.out⟩
set_option maxHeartbeats 12800000 in
theorem tasks_qj (w : World) (v : Value) (xs : List Tk) (i l : Int) (ad : Nat → Addr) (E : Errs w ad) (h : Tks w v xs) (hl32 : xs.length * 32 ≤ 140737488355328) {m n u X Y A B C D : Int} (ha : TskAns xs i l m n u X Y A B C D) (hm0 : m = 0) (hn1 : n = 1) (hu1 : u = 1) (hlb : l < 0 ∨ (0 ≤ l ∧ 1099511627776 < l)) (hp : 0 < xs.length) (hs : okT (xs.getD 0 (0, 0, 0, 0))) (hlc : l < 0 ∨ (0 ≤ l ∧ 1099511627776 < l)) : Calls Tryd.prog 4 #[v, .int .i64 i, .int .i64 l] w fun e w' => e = .returned (.bool true) ∧ Below w.heap.size w w' := by
  have HAL : Hid (Ans w 9 #[] (.bool true)) := mkHid (fun W hb => dalive W ad (E.late hb).er3)
  have HA := mkHid ha
  have HE := mkHid E
  have HS := mkHid h
  have HL := mkHid hl32
  subst hm0
  subst hn1
  subst hu1
  obtain rfl := ha.no (by decide)
  obtain rfl := ha.nu (by decide)
  have HG : Hid (Ans w 13 #[.int .i64 l] (.bool false)) := mkHid (fun W _ => good_no W l hlb)
  have hli : (0 : Int) < xs.length := by omega
  have hln : ¬ (xs.length : Int) = 0 := by omega
  obtain ⟨sb, so, c, p, d, r, hsa, hx0, _⟩ : ∃ sb so c p d r, v = .slice (some ⟨sb, so, none⟩) xs.length (capOf v) ∧ xs[0]? = some (c, p, d, r) ∧ True := by
    obtain ⟨a, cap, rfl, _, _⟩ := id h
    obtain ⟨b, off, c, p, d, s, rfl, hx0, _⟩ := h.at (Below.refl _ _) 0 hp
    exact ⟨b, off, c, p, d, s, rfl, hx0, trivial⟩
  generalize capOf v = sc at hsa
  subst hsa
  have hsl : (xs.length : Int) ≤ 9223372036854775807 := by omega
  have HAT : Hid (∀ W, Below w.heap.size w W → TkAt W sb so (c, p, d, r)) := mkHid (fun W hb => by
    obtain ⟨b', off', c', p', d', s', e, e0, q0, q1, q2, q3⟩ := HS.out.at hb 0 hp
    cases e
    rw [hx0] at e0
    cases e0
    simp only [Nat.zero_mul, Nat.add_zero] at q0 q1 q2 q3
    exact ⟨q0, q1, q2, q3⟩)
  have hsv : xs.getD 0 (0, 0, 0, 0) = (c, p, d, r) := by rw [List.getD_eq_getElem?_getD, hx0]; rfl
  rw [hsv] at hs
  have H2 := mkHid (taskA_num w (c, p, d, r) l ad E.er4 hs hlc)
  have H4 := mkHid (reflegalT w (c, p, d, r) true (bT_true hs))
  have heq := fun W => (E.is_number).eq W
  skip
  clear hs hsv hx0 hp hlc
  obtain ⟨je, hje⟩ : ∃ ie, Hid (Tryd.prog.info? 52 = some ie ∧ ie.zero = some (.agg #[.int .i64 0, .int .i64 0, .int .i64 0, .int .i64 0]) ∧ ie.size = 4 ∧ ie.bytes = 32) := by
    obtain ⟨ie, h1, h2, h3, h4⟩ := info_parts info_task
    exact ⟨ie, mkHid ⟨h1, h2, h3, h4⟩⟩

  clear E h hl32 ha
  have M1 : Hid True := mkHid trivial
  have M2 : Hid True := mkHid trivial
  have M3 : Hid True := mkHid trivial
  have M4 : Hid True := mkHid trivial
  have M5 : Hid True := mkHid trivial
  have M6 : Hid True := mkHid trivial
  have M7 : Hid True := mkHid trivial
  have M8 : Hid True := mkHid trivial
  have M9 : Hid True := mkHid trivial
  have M10 : Hid True := mkHid trivial
  have M11 : Hid True := mkHid trivial
  have M12 : Hid True := mkHid trivial
  go_enter Tryd.func4, Tryd.ntmps4
  go_wp2_with (first
    | (go_at_call 9; clear M1; refine (HAL.out _ (Below.refl _ _)).mono ?_; rintro e w1 ⟨rfl, b1⟩; have HB1 := mkHid b1; clear b1)
    | (at_builtin; clear M2; have hm := World.ownsRow_made (base := w1.heap.size) (e := 52) (size := 4) w1 #[] 0 (Nat.le_refl _) (by unfold maxLen; omega) rfl; refine wpList_append_src4 _ rfl (.tmp 19) (.tmp 20) 44 44 rfl w1.heap.size 52 je Tryd.underlying44 hje.out.1 (.agg #[.int .i64 0, .int .i64 0, .int .i64 0, .int .i64 0]) 32 hje.out.2.1 rfl hje.out.2.2.1 hje.out.2.2.2 (.slice (some ⟨w1.heap.size, 0, none⟩) 0 0) 0 [] rfl hm (.slice (some ⟨sb, so, none⟩) xs.length sc) xs.length (xs.flatMap c4) rfl (HS.out.below (ba HB1.out _)).src (by have := HL.out; unfold maxLen; omega) (by have := HL.out; omega) (by simp) ?_; intro v4 w2 ho4 hg4 hat4; rw [Nat.zero_add, List.nil_append] at ho4; have b2 : Below w1.heap.size w1 w2 := ((Below.refl _ w1).alloc (Nat.le_refl _) (.cells #[] 52)).grown hg4 (by simp) (fun k hk => by simp [Value.ownBlock] at hk; omega); have HB2 := mkHid (bt HB1.out b2); obtain ⟨p2, r2, rfl, ht4, hq4⟩ := tks_of_owns_cap (xs := xs) (by omega) ho4; have HV2 := mkHid (And.intro ht4 hq4); clear hm ho4 hg4 hat4 b2 ht4 hq4)
    | (go_at_call 22; clear M3; refine (HA.out.p1 _ _ ad HV2.out.1 (HE.out.late HB2.out).er4).mono ?_; rintro e w3 ⟨rfl, b3⟩; have HB3 := mkHid (bt HB2.out b3); clear b3)
    | (at_builtin; clear M4; have hm := World.ownsRow_made (base := w3.heap.size) (e := 52) (size := 4) w3 #[] 0 (Nat.le_refl _) (by unfold maxLen; omega) rfl; refine wpList_append_src4 _ rfl (.tmp 27) (.tmp 28) 44 44 rfl w3.heap.size 52 je Tryd.underlying44 hje.out.1 (.agg #[.int .i64 0, .int .i64 0, .int .i64 0, .int .i64 0]) 32 hje.out.2.1 rfl hje.out.2.2.1 hje.out.2.2.2 (.slice (some ⟨w3.heap.size, 0, none⟩) 0 0) 0 [] rfl hm (.slice (some ⟨sb, so, none⟩) xs.length sc) xs.length (xs.flatMap c4) rfl (HS.out.below (ba HB3.out _)).src (by have := HL.out; unfold maxLen; omega) (by have := HL.out; omega) (by simp) ?_; intro v4 w4 ho4 hg4 hat4; rw [Nat.zero_add, List.nil_append] at ho4; have b4 : Below w3.heap.size w3 w4 := ((Below.refl _ w3).alloc (Nat.le_refl _) (.cells #[] 52)).grown hg4 (by simp) (fun k hk => by simp [Value.ownBlock] at hk; omega); have HB4 := mkHid (bt HB3.out b4); obtain ⟨p4, r4, rfl, ht4, hq4⟩ := tks_of_owns_cap (xs := xs) (by omega) ho4; have HV4 := mkHid (And.intro ht4 hq4); clear hm ho4 hg4 hat4 b4 ht4 hq4)
    | (go_at_call 23; clear M5; refine (HA.out.p2 _ _ ad HV4.out.1 (fun a n c e => by cases e; exact HV4.out.2) (HE.out.late HB4.out).er4).mono ?_; rintro e w5 ⟨rfl, b5⟩; have HB5 := mkHid (bt HB4.out b5); clear b5)
    | (go_at_call 24; clear M6; refine (HA.out.rf _ _ (HS.out.below HB5.out)).mono ?_; rintro e w6 ⟨rfl, b6⟩; have HB6 := mkHid (bt HB5.out b6); clear b6)
    | (go_at_call 13; clear M7; refine (HG.out _ (ba HB6.out _)).mono ?_; rintro e w7 ⟨rfl, b7⟩; have HB7 := mkHid (bt (ba HB6.out _) b7); clear b7)
    | (go_at_call 14; clear M8; refine (num_ev _ ad (HE.out.late HB7.out) 1 HA.out.cd).mono ?_; rintro e w8 ⟨rfl, b8⟩; have HB8 := mkHid (bt HB7.out b8); clear b8)
    | (go_at_call 14; clear M9; refine (num_ev _ ad (HE.out.late HB8.out) 1 HA.out.cu).mono ?_; rintro e w9 ⟨rfl, b9⟩; have HB9 := mkHid (bt HB8.out b9); have hc9 := HAT.out _ HB9.out; obtain ⟨tc9, tp9, td9, tt9⟩ := hc9; clear b9)
    | (go_at_call 27; clear M10; refine (H2.out _ HB9.out).mono ?_; rintro e w10 ⟨rfl, b10⟩; have HB10 := mkHid (bt HB9.out b10); have hc10 := HAT.out _ HB10.out; obtain ⟨tc10, tp10, td10, tt10⟩ := hc10; have gnumber_10 := (HE.out.late HB10.out).cell_number; clear tc9 tp9 td9 tt9; clear b10)
    | (go_at_call 28; clear M11; refine (H4.out _ HB10.out).mono ?_; rintro e w11 ⟨rfl, b11⟩; have HB11 := mkHid (bt HB10.out b11); have hc11 := HAT.out _ HB11.out; obtain ⟨tc11, tp11, td11, tt11⟩ := hc11; have gnumber_11 := (HE.out.late HB11.out).cell_number; clear tc10 tp10 td10 tt10; clear gnumber_10; clear b11)
    | (go_at_call 13; clear M12; refine (HG.out _ HB11.out).mono ?_; rintro e w12 ⟨rfl, b12⟩; have HB12 := mkHid (bt HB11.out b12); have hc12 := HAT.out _ HB12.out; obtain ⟨tc12, tp12, td12, tt12⟩ := hc12; have gnumber_12 := (HE.out.late HB12.out).cell_number; clear tc11 tp11 td11 tt11; clear gnumber_11; clear b12))
  go_ret
  exact ⟨rfl, HB12.out⟩
set_option maxHeartbeats 12800000 in
theorem tasks_r1e (w : World) (v : Value) (xs : List Tk) (i l : Int) (ad : Nat → Addr) (E : Errs w ad) (h : Tks w v xs) (hl32 : xs.length * 32 ≤ 140737488355328) {m n u X Y A B C D : Int} (ha : TskAns xs i l m n u X Y A B C D) (hm0 : m = 0) (hn1 : n = 0) (hu1 : u = 1) (hi : i < 0) (l0 : 0 ≤ l) (l1 : l ≤ 1099511627776) (hp : xs.length = 0) : Calls Tryd.prog 4 #[v, .int .i64 i, .int .i64 l] w fun e w' => e = .returned (.bool true) ∧ Below w.heap.size w w' := by
  have HAL : Hid (Ans w 9 #[] (.bool true)) := mkHid (fun W hb => dalive W ad (E.late hb).er3)
  have HA := mkHid ha
  have HE := mkHid E
  have HS := mkHid h
  have HL := mkHid hl32
  subst hm0
  subst hn1
  subst hu1
  obtain rfl := ha.nu (by decide)
  have HG : Hid (Ans w 13 #[.int .i64 l] (.bool true)) := mkHid (fun W _ => good_yes W l l0 l1)
  have HLN : Hid ((xs.length : Int) = 0) := mkHid (by omega)
  clear hp
  obtain ⟨je, hje⟩ : ∃ ie, Hid (Tryd.prog.info? 52 = some ie ∧ ie.zero = some (.agg #[.int .i64 0, .int .i64 0, .int .i64 0, .int .i64 0]) ∧ ie.size = 4 ∧ ie.bytes = 32) := by
    obtain ⟨ie, h1, h2, h3, h4⟩ := info_parts info_task
    exact ⟨ie, mkHid ⟨h1, h2, h3, h4⟩⟩
  obtain ⟨sa, sc, rfl, hsl, h9⟩ := id h
  clear E h hl32 ha h9
  have M1 : Hid True := mkHid trivial
  have M2 : Hid True := mkHid trivial
  have M3 : Hid True := mkHid trivial
  have M4 : Hid True := mkHid trivial
  have M5 : Hid True := mkHid trivial
  have M6 : Hid True := mkHid trivial
  have M7 : Hid True := mkHid trivial
  have M8 : Hid True := mkHid trivial
  have M9 : Hid True := mkHid trivial
  have M10 : Hid True := mkHid trivial
  go_enter Tryd.func4, Tryd.ntmps4
  go_wp2_with (first
    | (go_at_call 9; clear M1; refine (HAL.out _ (Below.refl _ _)).mono ?_; rintro e w1 ⟨rfl, b1⟩; have HB1 := mkHid b1; clear b1)
    | (at_builtin; clear M2; have hm := World.ownsRow_made (base := w1.heap.size) (e := 52) (size := 4) w1 #[] 0 (Nat.le_refl _) (by unfold maxLen; omega) rfl; refine wpList_append_src4 _ rfl (.tmp 19) (.tmp 20) 44 44 rfl w1.heap.size 52 je Tryd.underlying44 hje.out.1 (.agg #[.int .i64 0, .int .i64 0, .int .i64 0, .int .i64 0]) 32 hje.out.2.1 rfl hje.out.2.2.1 hje.out.2.2.2 (.slice (some ⟨w1.heap.size, 0, none⟩) 0 0) 0 [] rfl hm (.slice sa xs.length sc) xs.length (xs.flatMap c4) rfl (HS.out.below (ba HB1.out _)).src (by have := HL.out; unfold maxLen; omega) (by have := HL.out; omega) (by simp) ?_; intro v4 w2 ho4 hg4 hat4; rw [Nat.zero_add, List.nil_append] at ho4; have b2 : Below w1.heap.size w1 w2 := ((Below.refl _ w1).alloc (Nat.le_refl _) (.cells #[] 52)).grown hg4 (by simp) (fun k hk => by simp [Value.ownBlock] at hk; omega); have HB2 := mkHid (bt HB1.out b2); obtain ⟨p2, r2, rfl, ht4, hq4⟩ := tks_of_owns_cap (xs := xs) (by omega) ho4; have HV2 := mkHid (And.intro ht4 hq4); clear hm ho4 hg4 hat4 b2 ht4 hq4)
    | (go_at_call 22; clear M3; refine (HA.out.p1 _ _ ad HV2.out.1 (HE.out.late HB2.out).er4).mono ?_; rintro e w3 ⟨rfl, b3⟩; have HB3 := mkHid (bt HB2.out b3); clear b3)
    | (at_builtin; clear M4; have hm := World.ownsRow_made (base := w3.heap.size) (e := 52) (size := 4) w3 #[] 0 (Nat.le_refl _) (by unfold maxLen; omega) rfl; refine wpList_append_src4 _ rfl (.tmp 27) (.tmp 28) 44 44 rfl w3.heap.size 52 je Tryd.underlying44 hje.out.1 (.agg #[.int .i64 0, .int .i64 0, .int .i64 0, .int .i64 0]) 32 hje.out.2.1 rfl hje.out.2.2.1 hje.out.2.2.2 (.slice (some ⟨w3.heap.size, 0, none⟩) 0 0) 0 [] rfl hm (.slice sa xs.length sc) xs.length (xs.flatMap c4) rfl (HS.out.below (ba HB3.out _)).src (by have := HL.out; unfold maxLen; omega) (by have := HL.out; omega) (by simp) ?_; intro v4 w4 ho4 hg4 hat4; rw [Nat.zero_add, List.nil_append] at ho4; have b4 : Below w3.heap.size w3 w4 := ((Below.refl _ w3).alloc (Nat.le_refl _) (.cells #[] 52)).grown hg4 (by simp) (fun k hk => by simp [Value.ownBlock] at hk; omega); have HB4 := mkHid (bt HB3.out b4); obtain ⟨p4, r4, rfl, ht4, hq4⟩ := tks_of_owns_cap (xs := xs) (by omega) ho4; have HV4 := mkHid (And.intro ht4 hq4); clear hm ho4 hg4 hat4 b4 ht4 hq4)
    | (go_at_call 23; clear M5; refine (HA.out.p2 _ _ ad HV4.out.1 (fun a n c e => by cases e; exact HV4.out.2) (HE.out.late HB4.out).er4).mono ?_; rintro e w5 ⟨rfl, b5⟩; have HB5 := mkHid (bt HB4.out b5); clear b5)
    | (go_at_call 24; clear M6; refine (HA.out.rf _ _ (HS.out.below HB5.out)).mono ?_; rintro e w6 ⟨rfl, b6⟩; have HB6 := mkHid (bt HB5.out b6); clear b6)
    | (go_at_call 13; clear M7; refine (HG.out _ (ba HB6.out _)).mono ?_; rintro e w7 ⟨rfl, b7⟩; have HB7 := mkHid (bt (ba HB6.out _) b7); clear b7)
    | (go_at_call 14; clear M8; refine (num_ev _ ad (HE.out.late HB7.out) 0 HA.out.cd).mono ?_; rintro e w8 ⟨rfl, b8⟩; have HB8 := mkHid (bt HB7.out b8); clear b8)
    | (go_at_call 14; clear M9; refine (num_ev _ ad (HE.out.late HB8.out) 1 HA.out.cu).mono ?_; rintro e w9 ⟨rfl, b9⟩; have HB9 := mkHid (bt HB8.out b9); clear b9)
    | (go_at_call 25; clear M10; refine (HA.out.r1 rfl _ _ (HS.out.below HB9.out)).mono ?_; rintro e w10 ⟨rfl, b10⟩; have HB10 := mkHid (bt HB9.out b10); have hln := HLN.out; clear b10))
  go_ret
  exact ⟨rfl, HB10.out⟩
set_option maxHeartbeats 12800000 in
theorem tasks_r2e (w : World) (v : Value) (xs : List Tk) (i l : Int) (ad : Nat → Addr) (E : Errs w ad) (h : Tks w v xs) (hl32 : xs.length * 32 ≤ 140737488355328) {m n u X Y A B C D : Int} (ha : TskAns xs i l m n u X Y A B C D) (hm0 : m = 0) (hn1 : n = 0) (hu1 : u = 1) (hi : ¬ i < 0) (hi2 : (xs.length : Int) ≤ i) (l0 : 0 ≤ l) (l1 : l ≤ 1099511627776) (hp : xs.length = 0) : Calls Tryd.prog 4 #[v, .int .i64 i, .int .i64 l] w fun e w' => e = .returned (.bool true) ∧ Below w.heap.size w w' := by
  have HAL : Hid (Ans w 9 #[] (.bool true)) := mkHid (fun W hb => dalive W ad (E.late hb).er3)
  have HA := mkHid ha
  have HE := mkHid E
  have HS := mkHid h
  have HL := mkHid hl32
  subst hm0
  subst hn1
  subst hu1
  obtain rfl := ha.nu (by decide)
  have HG : Hid (Ans w 13 #[.int .i64 l] (.bool true)) := mkHid (fun W _ => good_yes W l l0 l1)
  have HLN : Hid ((xs.length : Int) = 0) := mkHid (by omega)
  clear hp
  obtain ⟨je, hje⟩ : ∃ ie, Hid (Tryd.prog.info? 52 = some ie ∧ ie.zero = some (.agg #[.int .i64 0, .int .i64 0, .int .i64 0, .int .i64 0]) ∧ ie.size = 4 ∧ ie.bytes = 32) := by
    obtain ⟨ie, h1, h2, h3, h4⟩ := info_parts info_task
    exact ⟨ie, mkHid ⟨h1, h2, h3, h4⟩⟩
  obtain ⟨sa, sc, rfl, hsl, h9⟩ := id h
  clear E h hl32 ha h9
  have M1 : Hid True := mkHid trivial
  have M2 : Hid True := mkHid trivial
  have M3 : Hid True := mkHid trivial
  have M4 : Hid True := mkHid trivial
  have M5 : Hid True := mkHid trivial
  have M6 : Hid True := mkHid trivial
  have M7 : Hid True := mkHid trivial
  have M8 : Hid True := mkHid trivial
  have M9 : Hid True := mkHid trivial
  have M10 : Hid True := mkHid trivial
  go_enter Tryd.func4, Tryd.ntmps4
  go_wp2_with (first
    | (go_at_call 9; clear M1; refine (HAL.out _ (Below.refl _ _)).mono ?_; rintro e w1 ⟨rfl, b1⟩; have HB1 := mkHid b1; clear b1)
    | (at_builtin; clear M2; have hm := World.ownsRow_made (base := w1.heap.size) (e := 52) (size := 4) w1 #[] 0 (Nat.le_refl _) (by unfold maxLen; omega) rfl; refine wpList_append_src4 _ rfl (.tmp 19) (.tmp 20) 44 44 rfl w1.heap.size 52 je Tryd.underlying44 hje.out.1 (.agg #[.int .i64 0, .int .i64 0, .int .i64 0, .int .i64 0]) 32 hje.out.2.1 rfl hje.out.2.2.1 hje.out.2.2.2 (.slice (some ⟨w1.heap.size, 0, none⟩) 0 0) 0 [] rfl hm (.slice sa xs.length sc) xs.length (xs.flatMap c4) rfl (HS.out.below (ba HB1.out _)).src (by have := HL.out; unfold maxLen; omega) (by have := HL.out; omega) (by simp) ?_; intro v4 w2 ho4 hg4 hat4; rw [Nat.zero_add, List.nil_append] at ho4; have b2 : Below w1.heap.size w1 w2 := ((Below.refl _ w1).alloc (Nat.le_refl _) (.cells #[] 52)).grown hg4 (by simp) (fun k hk => by simp [Value.ownBlock] at hk; omega); have HB2 := mkHid (bt HB1.out b2); obtain ⟨p2, r2, rfl, ht4, hq4⟩ := tks_of_owns_cap (xs := xs) (by omega) ho4; have HV2 := mkHid (And.intro ht4 hq4); clear hm ho4 hg4 hat4 b2 ht4 hq4)
    | (go_at_call 22; clear M3; refine (HA.out.p1 _ _ ad HV2.out.1 (HE.out.late HB2.out).er4).mono ?_; rintro e w3 ⟨rfl, b3⟩; have HB3 := mkHid (bt HB2.out b3); clear b3)
    | (at_builtin; clear M4; have hm := World.ownsRow_made (base := w3.heap.size) (e := 52) (size := 4) w3 #[] 0 (Nat.le_refl _) (by unfold maxLen; omega) rfl; refine wpList_append_src4 _ rfl (.tmp 27) (.tmp 28) 44 44 rfl w3.heap.size 52 je Tryd.underlying44 hje.out.1 (.agg #[.int .i64 0, .int .i64 0, .int .i64 0, .int .i64 0]) 32 hje.out.2.1 rfl hje.out.2.2.1 hje.out.2.2.2 (.slice (some ⟨w3.heap.size, 0, none⟩) 0 0) 0 [] rfl hm (.slice sa xs.length sc) xs.length (xs.flatMap c4) rfl (HS.out.below (ba HB3.out _)).src (by have := HL.out; unfold maxLen; omega) (by have := HL.out; omega) (by simp) ?_; intro v4 w4 ho4 hg4 hat4; rw [Nat.zero_add, List.nil_append] at ho4; have b4 : Below w3.heap.size w3 w4 := ((Below.refl _ w3).alloc (Nat.le_refl _) (.cells #[] 52)).grown hg4 (by simp) (fun k hk => by simp [Value.ownBlock] at hk; omega); have HB4 := mkHid (bt HB3.out b4); obtain ⟨p4, r4, rfl, ht4, hq4⟩ := tks_of_owns_cap (xs := xs) (by omega) ho4; have HV4 := mkHid (And.intro ht4 hq4); clear hm ho4 hg4 hat4 b4 ht4 hq4)
    | (go_at_call 23; clear M5; refine (HA.out.p2 _ _ ad HV4.out.1 (fun a n c e => by cases e; exact HV4.out.2) (HE.out.late HB4.out).er4).mono ?_; rintro e w5 ⟨rfl, b5⟩; have HB5 := mkHid (bt HB4.out b5); clear b5)
    | (go_at_call 24; clear M6; refine (HA.out.rf _ _ (HS.out.below HB5.out)).mono ?_; rintro e w6 ⟨rfl, b6⟩; have HB6 := mkHid (bt HB5.out b6); clear b6)
    | (go_at_call 13; clear M7; refine (HG.out _ (ba HB6.out _)).mono ?_; rintro e w7 ⟨rfl, b7⟩; have HB7 := mkHid (bt (ba HB6.out _) b7); clear b7)
    | (go_at_call 14; clear M8; refine (num_ev _ ad (HE.out.late HB7.out) 0 HA.out.cd).mono ?_; rintro e w8 ⟨rfl, b8⟩; have HB8 := mkHid (bt HB7.out b8); clear b8)
    | (go_at_call 14; clear M9; refine (num_ev _ ad (HE.out.late HB8.out) 1 HA.out.cu).mono ?_; rintro e w9 ⟨rfl, b9⟩; have HB9 := mkHid (bt HB8.out b9); clear b9)
    | (go_at_call 25; clear M10; refine (HA.out.r1 rfl _ _ (HS.out.below HB9.out)).mono ?_; rintro e w10 ⟨rfl, b10⟩; have HB10 := mkHid (bt HB9.out b10); have hln := HLN.out; clear b10))
  go_ret
  exact ⟨rfl, HB10.out⟩
set_option maxHeartbeats 12800000 in
theorem tasks_r1k (w : World) (v : Value) (xs : List Tk) (i l : Int) (ad : Nat → Addr) (E : Errs w ad) (h : Tks w v xs) (hl32 : xs.length * 32 ≤ 140737488355328) {m n u X Y A B C D : Int} (ha : TskAns xs i l m n u X Y A B C D) (hm0 : m = 0) (hn1 : n = 0) (hu1 : u = 1) (hi : i < 0) (l0 : 0 ≤ l) (l1 : l ≤ 1099511627776) (hp : 0 < xs.length) (hs : okT (xs.getD 0 (0, 0, 0, 0))) (c0 : 0 ≤ l) (c1 : l ≤ 1099511627776) : Calls Tryd.prog 4 #[v, .int .i64 i, .int .i64 l] w fun e w' => e = .returned (.bool true) ∧ Below w.heap.size w w' := by
  have HAL : Hid (Ans w 9 #[] (.bool true)) := mkHid (fun W hb => dalive W ad (E.late hb).er3)
  have HA := mkHid ha
  have HE := mkHid E
  have HS := mkHid h
  have HL := mkHid hl32
  subst hm0
  subst hn1
  subst hu1
  obtain rfl := ha.nu (by decide)
  have HG : Hid (Ans w 13 #[.int .i64 l] (.bool true)) := mkHid (fun W _ => good_yes W l l0 l1)
  have hli : (0 : Int) < xs.length := by omega
  have hln : ¬ (xs.length : Int) = 0 := by omega
  obtain ⟨sb, so, c, p, d, r, hsa, hx0, _⟩ : ∃ sb so c p d r, v = .slice (some ⟨sb, so, none⟩) xs.length (capOf v) ∧ xs[0]? = some (c, p, d, r) ∧ True := by
    obtain ⟨a, cap, rfl, _, _⟩ := id h
    obtain ⟨b, off, c, p, d, s, rfl, hx0, _⟩ := h.at (Below.refl _ _) 0 hp
    exact ⟨b, off, c, p, d, s, rfl, hx0, trivial⟩
  generalize capOf v = sc at hsa
  subst hsa
  have hsl : (xs.length : Int) ≤ 9223372036854775807 := by omega
  have HAT : Hid (∀ W, Below w.heap.size w W → TkAt W sb so (c, p, d, r)) := mkHid (fun W hb => by
    obtain ⟨b', off', c', p', d', s', e, e0, q0, q1, q2, q3⟩ := HS.out.at hb 0 hp
    cases e
    rw [hx0] at e0
    cases e0
    simp only [Nat.zero_mul, Nat.add_zero] at q0 q1 q2 q3
    exact ⟨q0, q1, q2, q3⟩)
  have hsv : xs.getD 0 (0, 0, 0, 0) = (c, p, d, r) := by rw [List.getD_eq_getElem?_getD, hx0]; rfl
  rw [hsv] at hs
  have H2 := mkHid (taskA_yes w (c, p, d, r) l ad E.er4 hs c0 c1)
  have H4 := mkHid (reflegalT w (c, p, d, r) true (bT_true hs))
  have H5 : Hid (Ans w 29 #[vT (c, p, d, r), .int .i64 l] (.int .i64 (tdem (c, p, d, r) l))) := mkHid (fun W _ => rtdem_is W (c, p, d, r) l hs c0 c1)
  skip
  clear hs hsv hx0 hp
  generalize tdem (c, p, d, r) l = U at *
  obtain ⟨je, hje⟩ : ∃ ie, Hid (Tryd.prog.info? 52 = some ie ∧ ie.zero = some (.agg #[.int .i64 0, .int .i64 0, .int .i64 0, .int .i64 0]) ∧ ie.size = 4 ∧ ie.bytes = 32) := by
    obtain ⟨ie, h1, h2, h3, h4⟩ := info_parts info_task
    exact ⟨ie, mkHid ⟨h1, h2, h3, h4⟩⟩

  clear E h hl32 ha
  have M1 : Hid True := mkHid trivial
  have M2 : Hid True := mkHid trivial
  have M3 : Hid True := mkHid trivial
  have M4 : Hid True := mkHid trivial
  have M5 : Hid True := mkHid trivial
  have M6 : Hid True := mkHid trivial
  have M7 : Hid True := mkHid trivial
  have M8 : Hid True := mkHid trivial
  have M9 : Hid True := mkHid trivial
  have M10 : Hid True := mkHid trivial
  have M11 : Hid True := mkHid trivial
  have M12 : Hid True := mkHid trivial
  have M13 : Hid True := mkHid trivial
  have M14 : Hid True := mkHid trivial
  go_enter Tryd.func4, Tryd.ntmps4
  go_wp2_with (first
    | (go_at_call 9; clear M1; refine (HAL.out _ (Below.refl _ _)).mono ?_; rintro e w1 ⟨rfl, b1⟩; have HB1 := mkHid b1; clear b1)
    | (at_builtin; clear M2; have hm := World.ownsRow_made (base := w1.heap.size) (e := 52) (size := 4) w1 #[] 0 (Nat.le_refl _) (by unfold maxLen; omega) rfl; refine wpList_append_src4 _ rfl (.tmp 19) (.tmp 20) 44 44 rfl w1.heap.size 52 je Tryd.underlying44 hje.out.1 (.agg #[.int .i64 0, .int .i64 0, .int .i64 0, .int .i64 0]) 32 hje.out.2.1 rfl hje.out.2.2.1 hje.out.2.2.2 (.slice (some ⟨w1.heap.size, 0, none⟩) 0 0) 0 [] rfl hm (.slice (some ⟨sb, so, none⟩) xs.length sc) xs.length (xs.flatMap c4) rfl (HS.out.below (ba HB1.out _)).src (by have := HL.out; unfold maxLen; omega) (by have := HL.out; omega) (by simp) ?_; intro v4 w2 ho4 hg4 hat4; rw [Nat.zero_add, List.nil_append] at ho4; have b2 : Below w1.heap.size w1 w2 := ((Below.refl _ w1).alloc (Nat.le_refl _) (.cells #[] 52)).grown hg4 (by simp) (fun k hk => by simp [Value.ownBlock] at hk; omega); have HB2 := mkHid (bt HB1.out b2); obtain ⟨p2, r2, rfl, ht4, hq4⟩ := tks_of_owns_cap (xs := xs) (by omega) ho4; have HV2 := mkHid (And.intro ht4 hq4); clear hm ho4 hg4 hat4 b2 ht4 hq4)
    | (go_at_call 22; clear M3; refine (HA.out.p1 _ _ ad HV2.out.1 (HE.out.late HB2.out).er4).mono ?_; rintro e w3 ⟨rfl, b3⟩; have HB3 := mkHid (bt HB2.out b3); clear b3)
    | (at_builtin; clear M4; have hm := World.ownsRow_made (base := w3.heap.size) (e := 52) (size := 4) w3 #[] 0 (Nat.le_refl _) (by unfold maxLen; omega) rfl; refine wpList_append_src4 _ rfl (.tmp 27) (.tmp 28) 44 44 rfl w3.heap.size 52 je Tryd.underlying44 hje.out.1 (.agg #[.int .i64 0, .int .i64 0, .int .i64 0, .int .i64 0]) 32 hje.out.2.1 rfl hje.out.2.2.1 hje.out.2.2.2 (.slice (some ⟨w3.heap.size, 0, none⟩) 0 0) 0 [] rfl hm (.slice (some ⟨sb, so, none⟩) xs.length sc) xs.length (xs.flatMap c4) rfl (HS.out.below (ba HB3.out _)).src (by have := HL.out; unfold maxLen; omega) (by have := HL.out; omega) (by simp) ?_; intro v4 w4 ho4 hg4 hat4; rw [Nat.zero_add, List.nil_append] at ho4; have b4 : Below w3.heap.size w3 w4 := ((Below.refl _ w3).alloc (Nat.le_refl _) (.cells #[] 52)).grown hg4 (by simp) (fun k hk => by simp [Value.ownBlock] at hk; omega); have HB4 := mkHid (bt HB3.out b4); obtain ⟨p4, r4, rfl, ht4, hq4⟩ := tks_of_owns_cap (xs := xs) (by omega) ho4; have HV4 := mkHid (And.intro ht4 hq4); clear hm ho4 hg4 hat4 b4 ht4 hq4)
    | (go_at_call 23; clear M5; refine (HA.out.p2 _ _ ad HV4.out.1 (fun a n c e => by cases e; exact HV4.out.2) (HE.out.late HB4.out).er4).mono ?_; rintro e w5 ⟨rfl, b5⟩; have HB5 := mkHid (bt HB4.out b5); clear b5)
    | (go_at_call 24; clear M6; refine (HA.out.rf _ _ (HS.out.below HB5.out)).mono ?_; rintro e w6 ⟨rfl, b6⟩; have HB6 := mkHid (bt HB5.out b6); clear b6)
    | (go_at_call 13; clear M7; refine (HG.out _ (ba HB6.out _)).mono ?_; rintro e w7 ⟨rfl, b7⟩; have HB7 := mkHid (bt (ba HB6.out _) b7); clear b7)
    | (go_at_call 14; clear M8; refine (num_ev _ ad (HE.out.late HB7.out) 0 HA.out.cd).mono ?_; rintro e w8 ⟨rfl, b8⟩; have HB8 := mkHid (bt HB7.out b8); clear b8)
    | (go_at_call 14; clear M9; refine (num_ev _ ad (HE.out.late HB8.out) 1 HA.out.cu).mono ?_; rintro e w9 ⟨rfl, b9⟩; have HB9 := mkHid (bt HB8.out b9); clear b9)
    | (go_at_call 25; clear M10; refine (HA.out.r1 rfl _ _ (HS.out.below HB9.out)).mono ?_; rintro e w10 ⟨rfl, b10⟩; have HB10 := mkHid (bt HB9.out b10); have hc10 := HAT.out _ HB10.out; obtain ⟨tc10, tp10, td10, tt10⟩ := hc10; clear b10)
    | (go_at_call 27; clear M11; refine (H2.out _ HB10.out).mono ?_; rintro e w11 ⟨rfl, b11⟩; have HB11 := mkHid (bt HB10.out b11); have hc11 := HAT.out _ HB11.out; obtain ⟨tc11, tp11, td11, tt11⟩ := hc11; clear tc10 tp10 td10 tt10; clear b11)
    | (go_at_call 28; clear M12; refine (H4.out _ HB11.out).mono ?_; rintro e w12 ⟨rfl, b12⟩; have HB12 := mkHid (bt HB11.out b12); have hc12 := HAT.out _ HB12.out; obtain ⟨tc12, tp12, td12, tt12⟩ := hc12; clear tc11 tp11 td11 tt11; clear b12)
    | (go_at_call 13; clear M13; refine (HG.out _ HB12.out).mono ?_; rintro e w13 ⟨rfl, b13⟩; have HB13 := mkHid (bt HB12.out b13); have hc13 := HAT.out _ HB13.out; obtain ⟨tc13, tp13, td13, tt13⟩ := hc13; clear tc12 tp12 td12 tt12; clear b13)
    | (go_at_call 29; clear M14; refine (H5.out _ HB13.out).mono ?_; rintro e w14 ⟨rfl, b14⟩; have HB14 := mkHid (bt HB13.out b14); have hc14 := HAT.out _ HB14.out; obtain ⟨tc14, tp14, td14, tt14⟩ := hc14; clear tc13 tp13 td13 tt13; clear b14))
  go_ret
  exact ⟨rfl, HB14.out⟩
set_option maxHeartbeats 12800000 in
theorem tasks_r2k (w : World) (v : Value) (xs : List Tk) (i l : Int) (ad : Nat → Addr) (E : Errs w ad) (h : Tks w v xs) (hl32 : xs.length * 32 ≤ 140737488355328) {m n u X Y A B C D : Int} (ha : TskAns xs i l m n u X Y A B C D) (hm0 : m = 0) (hn1 : n = 0) (hu1 : u = 1) (hi : ¬ i < 0) (hi2 : (xs.length : Int) ≤ i) (l0 : 0 ≤ l) (l1 : l ≤ 1099511627776) (hp : 0 < xs.length) (hs : okT (xs.getD 0 (0, 0, 0, 0))) (c0 : 0 ≤ l) (c1 : l ≤ 1099511627776) : Calls Tryd.prog 4 #[v, .int .i64 i, .int .i64 l] w fun e w' => e = .returned (.bool true) ∧ Below w.heap.size w w' := by
  have HAL : Hid (Ans w 9 #[] (.bool true)) := mkHid (fun W hb => dalive W ad (E.late hb).er3)
  have HA := mkHid ha
  have HE := mkHid E
  have HS := mkHid h
  have HL := mkHid hl32
  subst hm0
  subst hn1
  subst hu1
  obtain rfl := ha.nu (by decide)
  have HG : Hid (Ans w 13 #[.int .i64 l] (.bool true)) := mkHid (fun W _ => good_yes W l l0 l1)
  have hli : (0 : Int) < xs.length := by omega
  have hln : ¬ (xs.length : Int) = 0 := by omega
  obtain ⟨sb, so, c, p, d, r, hsa, hx0, _⟩ : ∃ sb so c p d r, v = .slice (some ⟨sb, so, none⟩) xs.length (capOf v) ∧ xs[0]? = some (c, p, d, r) ∧ True := by
    obtain ⟨a, cap, rfl, _, _⟩ := id h
    obtain ⟨b, off, c, p, d, s, rfl, hx0, _⟩ := h.at (Below.refl _ _) 0 hp
    exact ⟨b, off, c, p, d, s, rfl, hx0, trivial⟩
  generalize capOf v = sc at hsa
  subst hsa
  have hsl : (xs.length : Int) ≤ 9223372036854775807 := by omega
  have HAT : Hid (∀ W, Below w.heap.size w W → TkAt W sb so (c, p, d, r)) := mkHid (fun W hb => by
    obtain ⟨b', off', c', p', d', s', e, e0, q0, q1, q2, q3⟩ := HS.out.at hb 0 hp
    cases e
    rw [hx0] at e0
    cases e0
    simp only [Nat.zero_mul, Nat.add_zero] at q0 q1 q2 q3
    exact ⟨q0, q1, q2, q3⟩)
  have hsv : xs.getD 0 (0, 0, 0, 0) = (c, p, d, r) := by rw [List.getD_eq_getElem?_getD, hx0]; rfl
  rw [hsv] at hs
  have H2 := mkHid (taskA_yes w (c, p, d, r) l ad E.er4 hs c0 c1)
  have H4 := mkHid (reflegalT w (c, p, d, r) true (bT_true hs))
  have H5 : Hid (Ans w 29 #[vT (c, p, d, r), .int .i64 l] (.int .i64 (tdem (c, p, d, r) l))) := mkHid (fun W _ => rtdem_is W (c, p, d, r) l hs c0 c1)
  skip
  clear hs hsv hx0 hp
  generalize tdem (c, p, d, r) l = U at *
  obtain ⟨je, hje⟩ : ∃ ie, Hid (Tryd.prog.info? 52 = some ie ∧ ie.zero = some (.agg #[.int .i64 0, .int .i64 0, .int .i64 0, .int .i64 0]) ∧ ie.size = 4 ∧ ie.bytes = 32) := by
    obtain ⟨ie, h1, h2, h3, h4⟩ := info_parts info_task
    exact ⟨ie, mkHid ⟨h1, h2, h3, h4⟩⟩

  clear E h hl32 ha
  have M1 : Hid True := mkHid trivial
  have M2 : Hid True := mkHid trivial
  have M3 : Hid True := mkHid trivial
  have M4 : Hid True := mkHid trivial
  have M5 : Hid True := mkHid trivial
  have M6 : Hid True := mkHid trivial
  have M7 : Hid True := mkHid trivial
  have M8 : Hid True := mkHid trivial
  have M9 : Hid True := mkHid trivial
  have M10 : Hid True := mkHid trivial
  have M11 : Hid True := mkHid trivial
  have M12 : Hid True := mkHid trivial
  have M13 : Hid True := mkHid trivial
  have M14 : Hid True := mkHid trivial
  go_enter Tryd.func4, Tryd.ntmps4
  go_wp2_with (first
    | (go_at_call 9; clear M1; refine (HAL.out _ (Below.refl _ _)).mono ?_; rintro e w1 ⟨rfl, b1⟩; have HB1 := mkHid b1; clear b1)
    | (at_builtin; clear M2; have hm := World.ownsRow_made (base := w1.heap.size) (e := 52) (size := 4) w1 #[] 0 (Nat.le_refl _) (by unfold maxLen; omega) rfl; refine wpList_append_src4 _ rfl (.tmp 19) (.tmp 20) 44 44 rfl w1.heap.size 52 je Tryd.underlying44 hje.out.1 (.agg #[.int .i64 0, .int .i64 0, .int .i64 0, .int .i64 0]) 32 hje.out.2.1 rfl hje.out.2.2.1 hje.out.2.2.2 (.slice (some ⟨w1.heap.size, 0, none⟩) 0 0) 0 [] rfl hm (.slice (some ⟨sb, so, none⟩) xs.length sc) xs.length (xs.flatMap c4) rfl (HS.out.below (ba HB1.out _)).src (by have := HL.out; unfold maxLen; omega) (by have := HL.out; omega) (by simp) ?_; intro v4 w2 ho4 hg4 hat4; rw [Nat.zero_add, List.nil_append] at ho4; have b2 : Below w1.heap.size w1 w2 := ((Below.refl _ w1).alloc (Nat.le_refl _) (.cells #[] 52)).grown hg4 (by simp) (fun k hk => by simp [Value.ownBlock] at hk; omega); have HB2 := mkHid (bt HB1.out b2); obtain ⟨p2, r2, rfl, ht4, hq4⟩ := tks_of_owns_cap (xs := xs) (by omega) ho4; have HV2 := mkHid (And.intro ht4 hq4); clear hm ho4 hg4 hat4 b2 ht4 hq4)
    | (go_at_call 22; clear M3; refine (HA.out.p1 _ _ ad HV2.out.1 (HE.out.late HB2.out).er4).mono ?_; rintro e w3 ⟨rfl, b3⟩; have HB3 := mkHid (bt HB2.out b3); clear b3)
    | (at_builtin; clear M4; have hm := World.ownsRow_made (base := w3.heap.size) (e := 52) (size := 4) w3 #[] 0 (Nat.le_refl _) (by unfold maxLen; omega) rfl; refine wpList_append_src4 _ rfl (.tmp 27) (.tmp 28) 44 44 rfl w3.heap.size 52 je Tryd.underlying44 hje.out.1 (.agg #[.int .i64 0, .int .i64 0, .int .i64 0, .int .i64 0]) 32 hje.out.2.1 rfl hje.out.2.2.1 hje.out.2.2.2 (.slice (some ⟨w3.heap.size, 0, none⟩) 0 0) 0 [] rfl hm (.slice (some ⟨sb, so, none⟩) xs.length sc) xs.length (xs.flatMap c4) rfl (HS.out.below (ba HB3.out _)).src (by have := HL.out; unfold maxLen; omega) (by have := HL.out; omega) (by simp) ?_; intro v4 w4 ho4 hg4 hat4; rw [Nat.zero_add, List.nil_append] at ho4; have b4 : Below w3.heap.size w3 w4 := ((Below.refl _ w3).alloc (Nat.le_refl _) (.cells #[] 52)).grown hg4 (by simp) (fun k hk => by simp [Value.ownBlock] at hk; omega); have HB4 := mkHid (bt HB3.out b4); obtain ⟨p4, r4, rfl, ht4, hq4⟩ := tks_of_owns_cap (xs := xs) (by omega) ho4; have HV4 := mkHid (And.intro ht4 hq4); clear hm ho4 hg4 hat4 b4 ht4 hq4)
    | (go_at_call 23; clear M5; refine (HA.out.p2 _ _ ad HV4.out.1 (fun a n c e => by cases e; exact HV4.out.2) (HE.out.late HB4.out).er4).mono ?_; rintro e w5 ⟨rfl, b5⟩; have HB5 := mkHid (bt HB4.out b5); clear b5)
    | (go_at_call 24; clear M6; refine (HA.out.rf _ _ (HS.out.below HB5.out)).mono ?_; rintro e w6 ⟨rfl, b6⟩; have HB6 := mkHid (bt HB5.out b6); clear b6)
    | (go_at_call 13; clear M7; refine (HG.out _ (ba HB6.out _)).mono ?_; rintro e w7 ⟨rfl, b7⟩; have HB7 := mkHid (bt (ba HB6.out _) b7); clear b7)
    | (go_at_call 14; clear M8; refine (num_ev _ ad (HE.out.late HB7.out) 0 HA.out.cd).mono ?_; rintro e w8 ⟨rfl, b8⟩; have HB8 := mkHid (bt HB7.out b8); clear b8)
    | (go_at_call 14; clear M9; refine (num_ev _ ad (HE.out.late HB8.out) 1 HA.out.cu).mono ?_; rintro e w9 ⟨rfl, b9⟩; have HB9 := mkHid (bt HB8.out b9); clear b9)
    | (go_at_call 25; clear M10; refine (HA.out.r1 rfl _ _ (HS.out.below HB9.out)).mono ?_; rintro e w10 ⟨rfl, b10⟩; have HB10 := mkHid (bt HB9.out b10); have hc10 := HAT.out _ HB10.out; obtain ⟨tc10, tp10, td10, tt10⟩ := hc10; clear b10)
    | (go_at_call 27; clear M11; refine (H2.out _ HB10.out).mono ?_; rintro e w11 ⟨rfl, b11⟩; have HB11 := mkHid (bt HB10.out b11); have hc11 := HAT.out _ HB11.out; obtain ⟨tc11, tp11, td11, tt11⟩ := hc11; clear tc10 tp10 td10 tt10; clear b11)
    | (go_at_call 28; clear M12; refine (H4.out _ HB11.out).mono ?_; rintro e w12 ⟨rfl, b12⟩; have HB12 := mkHid (bt HB11.out b12); have hc12 := HAT.out _ HB12.out; obtain ⟨tc12, tp12, td12, tt12⟩ := hc12; clear tc11 tp11 td11 tt11; clear b12)
    | (go_at_call 13; clear M13; refine (HG.out _ HB12.out).mono ?_; rintro e w13 ⟨rfl, b13⟩; have HB13 := mkHid (bt HB12.out b13); have hc13 := HAT.out _ HB13.out; obtain ⟨tc13, tp13, td13, tt13⟩ := hc13; clear tc12 tp12 td12 tt12; clear b13)
    | (go_at_call 29; clear M14; refine (H5.out _ HB13.out).mono ?_; rintro e w14 ⟨rfl, b14⟩; have HB14 := mkHid (bt HB13.out b14); have hc14 := HAT.out _ HB14.out; obtain ⟨tc14, tp14, td14, tt14⟩ := hc14; clear tc13 tp13 td13 tt13; clear b14))
  go_ret
  exact ⟨rfl, HB14.out⟩
set_option maxHeartbeats 12800000 in
theorem tasks_sk (w : World) (v : Value) (xs : List Tk) (i l : Int) (ad : Nat → Addr) (E : Errs w ad) (h : Tks w v xs) (hl32 : xs.length * 32 ≤ 140737488355328) {m n u X Y A B C D : Int} (ha : TskAns xs i l m n u X Y A B C D) (hm0 : m = 0) (hn1 : n = 0) (hu1 : u = 0) (hi0 : 0 ≤ i) (hi1 : i < xs.length) (l0 : 0 ≤ l) (l1 : l ≤ 1099511627776) (hp : 0 < xs.length) (hs : okT (xs.getD 0 (0, 0, 0, 0))) (c0 : 0 ≤ l) (c1 : l ≤ 1099511627776) : Calls Tryd.prog 4 #[v, .int .i64 i, .int .i64 l] w fun e w' => e = .returned (.bool true) ∧ Below w.heap.size w w' := by
  have HAL : Hid (Ans w 9 #[] (.bool true)) := mkHid (fun W hb => dalive W ad (E.late hb).er3)
  have HA := mkHid ha
  have HE := mkHid E
  have HS := mkHid h
  have HL := mkHid hl32
  subst hm0
  subst hn1
  subst hu1
  have HG : Hid (Ans w 13 #[.int .i64 l] (.bool true)) := mkHid (fun W _ => good_yes W l l0 l1)
  have hli : (0 : Int) < xs.length := by omega
  have hln : ¬ (xs.length : Int) = 0 := by omega
  obtain ⟨sb, so, c, p, d, r, hsa, hx0, _⟩ : ∃ sb so c p d r, v = .slice (some ⟨sb, so, none⟩) xs.length (capOf v) ∧ xs[0]? = some (c, p, d, r) ∧ True := by
    obtain ⟨a, cap, rfl, _, _⟩ := id h
    obtain ⟨b, off, c, p, d, s, rfl, hx0, _⟩ := h.at (Below.refl _ _) 0 hp
    exact ⟨b, off, c, p, d, s, rfl, hx0, trivial⟩
  generalize capOf v = sc at hsa
  subst hsa
  have hsl : (xs.length : Int) ≤ 9223372036854775807 := by omega
  have HAT : Hid (∀ W, Below w.heap.size w W → TkAt W sb so (c, p, d, r)) := mkHid (fun W hb => by
    obtain ⟨b', off', c', p', d', s', e, e0, q0, q1, q2, q3⟩ := HS.out.at hb 0 hp
    cases e
    rw [hx0] at e0
    cases e0
    simp only [Nat.zero_mul, Nat.add_zero] at q0 q1 q2 q3
    exact ⟨q0, q1, q2, q3⟩)
  have hsv : xs.getD 0 (0, 0, 0, 0) = (c, p, d, r) := by rw [List.getD_eq_getElem?_getD, hx0]; rfl
  rw [hsv] at hs
  have H2 := mkHid (taskA_yes w (c, p, d, r) l ad E.er4 hs c0 c1)
  have H4 := mkHid (reflegalT w (c, p, d, r) true (bT_true hs))
  have H5 : Hid (Ans w 29 #[vT (c, p, d, r), .int .i64 l] (.int .i64 (tdem (c, p, d, r) l))) := mkHid (fun W _ => rtdem_is W (c, p, d, r) l hs c0 c1)
  skip
  clear hs hsv hx0 hp
  generalize tdem (c, p, d, r) l = U at *
  obtain ⟨je, hje⟩ : ∃ ie, Hid (Tryd.prog.info? 52 = some ie ∧ ie.zero = some (.agg #[.int .i64 0, .int .i64 0, .int .i64 0, .int .i64 0]) ∧ ie.size = 4 ∧ ie.bytes = 32) := by
    obtain ⟨ie, h1, h2, h3, h4⟩ := info_parts info_task
    exact ⟨ie, mkHid ⟨h1, h2, h3, h4⟩⟩

  clear E h hl32 ha
  have M1 : Hid True := mkHid trivial
  have M2 : Hid True := mkHid trivial
  have M3 : Hid True := mkHid trivial
  have M4 : Hid True := mkHid trivial
  have M5 : Hid True := mkHid trivial
  have M6 : Hid True := mkHid trivial
  have M7 : Hid True := mkHid trivial
  have M8 : Hid True := mkHid trivial
  have M9 : Hid True := mkHid trivial
  have M10 : Hid True := mkHid trivial
  have M11 : Hid True := mkHid trivial
  have M12 : Hid True := mkHid trivial
  have M13 : Hid True := mkHid trivial
  have M14 : Hid True := mkHid trivial
  have M15 : Hid True := mkHid trivial
  go_enter Tryd.func4, Tryd.ntmps4
  go_wp2_with (first
    | (go_at_call 9; clear M1; refine (HAL.out _ (Below.refl _ _)).mono ?_; rintro e w1 ⟨rfl, b1⟩; have HB1 := mkHid b1; clear b1)
    | (at_builtin; clear M2; have hm := World.ownsRow_made (base := w1.heap.size) (e := 52) (size := 4) w1 #[] 0 (Nat.le_refl _) (by unfold maxLen; omega) rfl; refine wpList_append_src4 _ rfl (.tmp 19) (.tmp 20) 44 44 rfl w1.heap.size 52 je Tryd.underlying44 hje.out.1 (.agg #[.int .i64 0, .int .i64 0, .int .i64 0, .int .i64 0]) 32 hje.out.2.1 rfl hje.out.2.2.1 hje.out.2.2.2 (.slice (some ⟨w1.heap.size, 0, none⟩) 0 0) 0 [] rfl hm (.slice (some ⟨sb, so, none⟩) xs.length sc) xs.length (xs.flatMap c4) rfl (HS.out.below (ba HB1.out _)).src (by have := HL.out; unfold maxLen; omega) (by have := HL.out; omega) (by simp) ?_; intro v4 w2 ho4 hg4 hat4; rw [Nat.zero_add, List.nil_append] at ho4; have b2 : Below w1.heap.size w1 w2 := ((Below.refl _ w1).alloc (Nat.le_refl _) (.cells #[] 52)).grown hg4 (by simp) (fun k hk => by simp [Value.ownBlock] at hk; omega); have HB2 := mkHid (bt HB1.out b2); obtain ⟨p2, r2, rfl, ht4, hq4⟩ := tks_of_owns_cap (xs := xs) (by omega) ho4; have HV2 := mkHid (And.intro ht4 hq4); clear hm ho4 hg4 hat4 b2 ht4 hq4)
    | (go_at_call 22; clear M3; refine (HA.out.p1 _ _ ad HV2.out.1 (HE.out.late HB2.out).er4).mono ?_; rintro e w3 ⟨rfl, b3⟩; have HB3 := mkHid (bt HB2.out b3); clear b3)
    | (at_builtin; clear M4; have hm := World.ownsRow_made (base := w3.heap.size) (e := 52) (size := 4) w3 #[] 0 (Nat.le_refl _) (by unfold maxLen; omega) rfl; refine wpList_append_src4 _ rfl (.tmp 27) (.tmp 28) 44 44 rfl w3.heap.size 52 je Tryd.underlying44 hje.out.1 (.agg #[.int .i64 0, .int .i64 0, .int .i64 0, .int .i64 0]) 32 hje.out.2.1 rfl hje.out.2.2.1 hje.out.2.2.2 (.slice (some ⟨w3.heap.size, 0, none⟩) 0 0) 0 [] rfl hm (.slice (some ⟨sb, so, none⟩) xs.length sc) xs.length (xs.flatMap c4) rfl (HS.out.below (ba HB3.out _)).src (by have := HL.out; unfold maxLen; omega) (by have := HL.out; omega) (by simp) ?_; intro v4 w4 ho4 hg4 hat4; rw [Nat.zero_add, List.nil_append] at ho4; have b4 : Below w3.heap.size w3 w4 := ((Below.refl _ w3).alloc (Nat.le_refl _) (.cells #[] 52)).grown hg4 (by simp) (fun k hk => by simp [Value.ownBlock] at hk; omega); have HB4 := mkHid (bt HB3.out b4); obtain ⟨p4, r4, rfl, ht4, hq4⟩ := tks_of_owns_cap (xs := xs) (by omega) ho4; have HV4 := mkHid (And.intro ht4 hq4); clear hm ho4 hg4 hat4 b4 ht4 hq4)
    | (go_at_call 23; clear M5; refine (HA.out.p2 _ _ ad HV4.out.1 (fun a n c e => by cases e; exact HV4.out.2) (HE.out.late HB4.out).er4).mono ?_; rintro e w5 ⟨rfl, b5⟩; have HB5 := mkHid (bt HB4.out b5); clear b5)
    | (go_at_call 24; clear M6; refine (HA.out.rf _ _ (HS.out.below HB5.out)).mono ?_; rintro e w6 ⟨rfl, b6⟩; have HB6 := mkHid (bt HB5.out b6); clear b6)
    | (go_at_call 13; clear M7; refine (HG.out _ (ba HB6.out _)).mono ?_; rintro e w7 ⟨rfl, b7⟩; have HB7 := mkHid (bt (ba HB6.out _) b7); clear b7)
    | (go_at_call 14; clear M8; refine (num_ev _ ad (HE.out.late HB7.out) 0 HA.out.cd).mono ?_; rintro e w8 ⟨rfl, b8⟩; have HB8 := mkHid (bt HB7.out b8); clear b8)
    | (go_at_call 14; clear M9; refine (num_ev _ ad (HE.out.late HB8.out) 0 HA.out.cu).mono ?_; rintro e w9 ⟨rfl, b9⟩; have HB9 := mkHid (bt HB8.out b9); clear b9)
    | (go_at_call 25; clear M10; refine (HA.out.r1 rfl _ _ (HS.out.below HB9.out)).mono ?_; rintro e w10 ⟨rfl, b10⟩; have HB10 := mkHid (bt HB9.out b10); clear b10)
    | (go_at_call 26; clear M11; refine (HA.out.r2 rfl _ _ (HS.out.below HB10.out)).mono ?_; rintro e w11 ⟨rfl, b11⟩; have HB11 := mkHid (bt HB10.out b11); have hc11 := HAT.out _ HB11.out; obtain ⟨tc11, tp11, td11, tt11⟩ := hc11; clear b11)
    | (go_at_call 27; clear M12; refine (H2.out _ HB11.out).mono ?_; rintro e w12 ⟨rfl, b12⟩; have HB12 := mkHid (bt HB11.out b12); have hc12 := HAT.out _ HB12.out; obtain ⟨tc12, tp12, td12, tt12⟩ := hc12; clear tc11 tp11 td11 tt11; clear b12)
    | (go_at_call 28; clear M13; refine (H4.out _ HB12.out).mono ?_; rintro e w13 ⟨rfl, b13⟩; have HB13 := mkHid (bt HB12.out b13); have hc13 := HAT.out _ HB13.out; obtain ⟨tc13, tp13, td13, tt13⟩ := hc13; clear tc12 tp12 td12 tt12; clear b13)
    | (go_at_call 13; clear M14; refine (HG.out _ HB13.out).mono ?_; rintro e w14 ⟨rfl, b14⟩; have HB14 := mkHid (bt HB13.out b14); have hc14 := HAT.out _ HB14.out; obtain ⟨tc14, tp14, td14, tt14⟩ := hc14; clear tc13 tp13 td13 tt13; clear b14)
    | (go_at_call 29; clear M15; refine (H5.out _ HB14.out).mono ?_; rintro e w15 ⟨rfl, b15⟩; have HB15 := mkHid (bt HB14.out b15); have hc15 := HAT.out _ HB15.out; obtain ⟨tc15, tp15, td15, tt15⟩ := hc15; clear tc14 tp14 td14 tt14; clear b15))
  go_ret
  exact ⟨rfl, HB15.out⟩
theorem tasks_any (w : World) (v : Value) (xs : List Tk) (i l : Int) (ad : Nat → Addr) (E : Errs w ad) (h : Tks w v xs) (hl : xs.length * 32 ≤ 140737488355328) : Calls Tryd.prog 4 #[v, .int .i64 i, .int .i64 l] w fun e w' => e = .returned (.bool true) ∧ Below w.heap.size w w' := by
  obtain ⟨m, n, u, X, Y, A, B, C, D, ha, hok, hno, hc⟩ := tsk_ans xs i l
  have hne : ¬ m = 0 → 0 < xs.length := fun hm => by
    refine Nat.pos_of_ne_zero fun e => hno hm ?_
    rw [List.eq_nil_of_length_eq_zero e]
    exact ⟨by simp, fun x hx => by simp at hx⟩
  have hfirst : 0 < xs.length → okTs xs → okT (xs.getD 0 (0, 0, 0, 0)) := fun hp ht => by
    rw [List.getD_eq_getElem?_getD, List.getElem?_eq_getElem hp]
    exact ht.2 _ (List.getElem_mem hp)
  have hpos : 0 < xs.length ∨ xs.length = 0 := by omega
  rcases hc with ⟨hm, hn, hu⟩ | ⟨hm, hn, hu, hl2⟩ | ⟨hm, hn, hu, hi, l0, l1⟩ | ⟨hm, hn, hu, hi0, hi1, l0, l1⟩
  · have hp : 0 < xs.length := hne hm
    by_cases hs : okT (xs.getD 0 (0, 0, 0, 0))
    · rcases lcd_cases l with ⟨_, hl2⟩ | ⟨_, l0, l1⟩
      · exact tasks_pj w v xs i l ad E h hl ha hm hn hu hp hs hl2
      · exact tasks_pk w v xs i l ad E h hl ha hm hn hu hp hs l0 l1
    · exact tasks_pi w v xs i l ad E h hl ha hm hn hu hp hs
  · rcases hpos with hp | hp
    · exact tasks_qj w v xs i l ad E h hl ha hm hn hu hl2 hp (hfirst hp (hok hm)) hl2
    · exact tasks_qe w v xs i l ad E h hl ha hm hn hu hl2 hp
  · rcases hpos with hp | hp
    · rcases hi with hi | ⟨hi, hi2⟩
      · exact tasks_r1k w v xs i l ad E h hl ha hm hn hu hi l0 l1 hp (hfirst hp (hok hm)) l0 l1
      · exact tasks_r2k w v xs i l ad E h hl ha hm hn hu hi hi2 l0 l1 hp (hfirst hp (hok hm)) l0 l1
    · rcases hi with hi | ⟨hi, hi2⟩
      · exact tasks_r1e w v xs i l ad E h hl ha hm hn hu hi l0 l1 hp
      · exact tasks_r2e w v xs i l ad E h hl ha hm hn hu hi hi2 l0 l1 hp
  · have hp : 0 < xs.length := by omega
    exact tasks_sk w v xs i l ad E h hl ha hm hn hu hi0 hi1 l0 l1 hp (hfirst hp (hok hm)) l0 l1
end Go.Proofs.YtilnchlnlnpkfaaDoor
