import Derived.Test.YtaiklaipdocdmaaDoorRefNum
import Derived.Test.YtaiklaipdocdmaaDoorReader
import Derived.Deep.RegionWith
/- The document's Read of a number. -/
namespace Go.Proofs.YtaiklaipdocdmaaDoor
open Go.ChangeShapes Go.WideShapes Go.ChangeAt Go.RowKit
set_option maxRecDepth 100000

/-- The number that bytes make, lowest first, seven bits each. -/
def val : List Int → Nat
  | [] => 0
  | b :: p => (b % 128).toNat + 128 * val p
theorem val_lo (p : List Int) (c : Int) (hp : Hi p) (h0 : 0 ≤ c) (h1 : c < 128) : val (p ++ [c]) = lo p + c.toNat * 128 ^ p.length := by
  induction p with
  | nil => simp [val, lo]; omega
  | cons b p ih =>
    have hb := hp b (by simp)
    have ih' := ih (fun x hx => hp x (by simp [hx]))
    simp only [List.cons_append, val, lo, List.length_cons, Nat.pow_succ, ih']
    have e : c.toNat * (128 ^ p.length * 128) = 128 * (c.toNat * 128 ^ p.length) := by rw [← Nat.mul_assoc, Nat.mul_comm]
    rw [e, Nat.mul_add]
    omega
theorem val_lt (l : List Int) : val l < 128 ^ l.length := by
  induction l with
  | nil => simp [val]
  | cons b p ih =>
    have hb : 0 ≤ b % 128 ∧ b % 128 < 128 := ⟨Int.emod_nonneg _ (by omega), Int.emod_lt_of_pos _ (by omega)⟩
    simp only [val, List.length_cons, Nat.pow_succ]
    omega
theorem val_lt63 (l : List Int) (h : l.length ≤ 9) : val l < 9223372036854775808 := by
  have h1 := val_lt l
  have h2 : 128 ^ l.length ≤ 128 ^ 9 := Nat.pow_le_pow_right (by omega) h
  have h3 : (128 : Nat) ^ 9 = 9223372036854775808 := by decide
  omega
def RefReadPost (bs : List Int) (at' : Nat) (e : Ending) : Prop := ∃ n nx ok, e = .returned (.tuple #[.int .i64 n, .int .i64 nx, .bool ok]) ∧
  ((ok = true ∧ ∃ (N : Nat) (r : List Int), n = N ∧ (N : Int) ≤ 9223372036854775807 ∧ nx = ((at' + (enc N).length : Nat) : Int) ∧ bs.drop at' = enc N ++ r) ∨
   (ok = false ∧ ∀ (N : Nat) (r : List Int), (N : Int) ≤ 9223372036854775807 → bs.drop at' ≠ enc N ++ r))
theorem drop_at (bs : List Int) (a k : Nat) : (bs.drop a).getD k 0 = bs.getD (a + k) 0 := by simp [List.getD, List.getElem?_drop]
theorem refread_no {bs : List Int} {a : Nat} (h : Hi ((bs.drop a).take 9)) : RefReadPost bs a (.returned (.tuple #[.int .i64 0, .int .i64 0, .bool false])) :=
  ⟨0, 0, false, rfl, .inr ⟨rfl, fun N r hN => no_end _ h N (by omega) r⟩⟩
set_option maxHeartbeats 6400000 in
theorem refrd_any (w : World) (v : Value) (bs : List Int) (a : Nat) (h : Rd w v bs) (ha : a ≤ bs.length) (hl : (bs.length : Int) ≤ 140737488355328) :
    Calls Tryd.prog 87 #[v, .int .i64 (a : Int)] w fun e w' => RefReadPost bs a e ∧ Below w.heap.size w w' := by
  obtain ⟨hB, av, cap, rfl, hc, h0, hr⟩ := id h
  go_enter Tryd.func87, Tryd.ntmps87
  go_wp2
  go_loop [7] (fun iv => ∃ k : Nat, iv = .int .i64 ((a : Int) + (k : Int)) ∧ k ≤ 9 ∧ a + k ≤ bs.length ∧ Hid (Hi ((bs.drop a).take k))) (fun iv => a + 9 - (intOf iv).toNat)
  case atStart => exact ⟨0, by simp, by omega, by omega, mkHid (by simp [Hi])⟩
  case round =>
    obtain ⟨k, rfl, hk9, hkl, HH⟩ := hrel
    by_cases hlt : a + k < bs.length
    · have hi1 : (a : Int) + k < bs.length := by omega
      by_cases h9 : k < 9
      · have hi2 : (a : Int) + k < (a : Int) + 9 := by omega
        obtain ⟨b, off, rfl, hbl, hcell⟩ := hr (by omega)
        have hck := hcell (a + k) hlt
        have hb := hB.at (a + k)
        have hi3 : ((a : Int) + (k : Int)).toNat = a + k := by omega
        have HC := mkHid hcell
        have HB0 := mkHid hB
        obtain ⟨c, hcc⟩ : ∃ c, c = bs.getD (a + k) 0 := ⟨_, rfl⟩
        rw [← hcc] at hck hb
        have HCC := mkHid hcc
        clear hcell hr hcc
        by_cases hc128 : 128 ≤ c
        · have HH2 : Hid (Hi ((bs.drop a).take (k + 1))) := mkHid (by
            have hkd : k < (bs.drop a).length := by rw [List.length_drop]; omega
            rw [List.take_succ_eq_append_getElem hkd]
            intro z hz
            rcases List.mem_append.mp hz with hz | hz
            · exact HH.out z hz
            · simp at hz
              have e : bs.getD (a + k) 0 = bs[a + k] := by simp [List.getD, hlt]
              rw [hz, ← e, ← HCC.out]
              omega)
          go_wp2
          go_round
          case rel => exact ⟨k + 1, by go_num, by omega, by omega, HH2⟩
          case measure => simp [intOf]; omega
        · go_wp2
          go_loop [8, 9] (fun nv jv => ∃ t : Nat, t ≤ k + 1 ∧ jv = .int .i64 ((a : Int) + (t : Int) - 1) ∧ nv = .int .i64 (val (((bs.drop a).drop t).take (k + 1 - t)) : Int)) (fun _ jv => ((intOf jv) + 1 - a).toNat)
          case atStart => exact ⟨k + 1, by omega, by congr 1; omega, by simp [val]⟩
          case round =>
            obtain ⟨t, ht, rfl, rfl⟩ := hrel
            cases t with
            | succ t =>
              have hj : (a : Int) + ((t + 1 : Nat) : Int) - 1 = (a : Int) + (t : Int) := by omega
              rw [hj]
              have hge : (a : Int) ≤ (a : Int) + (t : Int) := by omega
              have hjl : (a : Int) + (t : Int) < bs.length := by omega
              have hjt : ((a : Int) + (t : Int)).toNat = a + t := by omega
              have hct := HC.out (a + t) (by omega)
              have hbt := HB0.out.at (a + t)
              obtain ⟨d, hd⟩ : ∃ d, d = bs.getD (a + t) 0 := ⟨_, rfl⟩
              rw [← hd] at hct hbt
              have hstep : val (((bs.drop a).drop t).take (k + 1 - t)) = (d % 128).toNat + 128 * val (((bs.drop a).drop (t + 1)).take (k + 1 - (t + 1))) := by
                have htl : t < (bs.drop a).length := by rw [List.length_drop]; omega
                rw [List.drop_eq_getElem_cons htl, show k + 1 - t = (k + 1 - (t + 1)) + 1 by omega, List.take_succ_cons, val]
                have e : (bs.drop a)[t] = d := by rw [hd]; simp [List.getD, show a + t < bs.length by omega]
                rw [e]
              have hlt63 := val_lt63 (((bs.drop a).drop t).take (k + 1 - t)) (by rw [List.length_take]; omega)
              rw [hstep] at hlt63
              have HST := mkHid hstep
              obtain ⟨V, hV⟩ : ∃ V, V = val (((bs.drop a).drop (t + 1)).take (k + 1 - (t + 1))) := ⟨_, rfl⟩
              rw [← hV] at hlt63 ⊢
              rw [← hV] at HST
              have hVi : (V : Int) * 128 + d % 128 ≤ 9223372036854775807 := by omega
              have hVj : (V : Int) * 128 ≤ 9223372036854775807 := by omega
              clear hstep hV hd hlt63
              go_wp2
              go_round
              case rel => exact ⟨t, by omega, rfl, by rw [HST.out]; congr 1; omega⟩
              case measure => simp [intOf]; omega
            | zero =>
              have hj : (a : Int) + ((0 : Nat) : Int) - 1 < (a : Int) := by omega
              have hj2 : ¬ (a : Int) ≤ (a : Int) + ((0 : Nat) : Int) - 1 := by omega
              have hkd : k < (bs.drop a).length := by rw [List.length_drop]; omega
              have htk : (bs.drop a).take (k + 1) = (bs.drop a).take k ++ [c] := by
                rw [List.take_succ_eq_append_getElem hkd]
                have e : (bs.drop a)[k] = c := by rw [HCC.out]; simp [List.getD, hlt]
                rw [e]
              have hpl : ((bs.drop a).take k).length = k := by rw [List.length_take]; omega
              have hsplit : bs.drop a = (bs.drop a).take k ++ c :: (bs.drop a).drop (k + 1) := by
                have := List.take_append_drop (k + 1) (bs.drop a)
                rw [htk, List.append_assoc] at this
                exact this.symm
              have hval : val (((bs.drop a).drop 0).take (k + 1 - 0)) = lo ((bs.drop a).take k) + c.toNat * 128 ^ ((bs.drop a).take k).length := by
                rw [List.drop_zero, Nat.sub_zero, htk]
                exact val_lo _ c HH.out hb.1 (by omega)
              have hM63 := val_lt63 (((bs.drop a).drop 0).take (k + 1 - 0)) (by rw [List.length_take]; omega)
              obtain ⟨M, hM⟩ : ∃ M, M = val (((bs.drop a).drop 0).take (k + 1 - 0)) := ⟨_, rfl⟩
              rw [← hM] at hM63 hval ⊢
              have hMi : (M : Int) ≤ 9223372036854775807 := by omega
              obtain ⟨vs, ssl, rsl⟩ := h.midN (f := a) (t := a + k + 1) (by omega) (by omega)
              rw [show ((a + k + 1 : Nat) : Int) = (a : Int) + (k : Int) + 1 by omega] at ssl
              rw [show a + k + 1 - a = k + 1 by omega, htk] at rsl
              have wr1 : IntKind.i64.wrap ((a : Int) + (k : Int) + 1) = (a : Int) + (k : Int) + 1 := by rw [IntKind.wrap_i64]; omega
              by_cases hgood : 0 < c ∨ (bs.drop a).take k = []
              · have hE : enc M = (bs.drop a).take k ++ [c] := by rw [hval]; exact enc_hi _ c HH.out hb.1 (by omega) hgood
                have hEl : (enc M).length = k + 1 := by rw [hE, List.length_append, hpl]; rfl
                have HP : Hid (RefReadPost bs a (.returned (.tuple #[.int .i64 (M : Int), .int .i64 ((a : Int) + (k : Int) + 1), .bool true]))) := mkHid ⟨_, _, _, rfl, .inl ⟨rfl, M, (bs.drop a).drop (k + 1), rfl, hMi, by rw [hEl]; omega, by rw [hE, List.append_assoc]; exact hsplit⟩⟩
                rw [← hE] at rsl
                obtain ⟨E, hEE⟩ : ∃ E, E = enc M := ⟨_, rfl⟩
                rw [← hEE] at rsl
                have HN : Hid (∀ W, Calls Tryd.prog 57 #[.int .i64 (M : Int)] W fun e w' => ∃ v', e = .returned v' ∧ w'.ownsRow W.heap.size 5 1 v' E.length (E.map (Value.int .u8)) ∧ Below W.heap.size W w') := mkHid (fun W => by rw [hEE]; exact refnum_any W M hMi)
                have HA : Hid (Byts E) := mkHid (by rw [hEE]; exact enc_byts M)
                have HR := mkHid rsl
                have cvB := (rsl.later ((Below.refl w.heap.size w).drew)).conv
                clear hEE hE hEl hval hM htk hsplit hpl hkd rsl hgood hM63
                go_wp2
                go_region_with (first | (go_at_call 57; (with_reducible refine (HN.out _).mono ?_); rintro e w2 ⟨v2, rfl, ho2, hb2⟩; have cv2 := (Rd.of_owns HA.out ho2).conv; have hb2' : Below w.heap.size w w2 := ((Below.refl _ _).drew).trans hb2; have cvB2 := (HR.out.later hb2').conv; clear hb2 ho2))
                all_goals go_wp2
                all_goals go_ret3
                all_goals exact ⟨HP.out, hb2'⟩
              · have hc0 : c = 0 := by omega
                have hpne : (bs.drop a).take k ≠ [] := fun e => hgood (.inr e)
                subst hc0
                have HP : Hid (RefReadPost bs a (.returned (.tuple #[.int .i64 0, .int .i64 0, .bool false]))) := mkHid ⟨0, 0, false, rfl, .inr ⟨rfl, fun N r _ e => by rw [hsplit] at e; exact no_zero _ _ HH.out hpne N r e⟩⟩
                have hne : enc M ≠ (bs.drop a).take k ++ [0] := fun e => no_zero _ [] HH.out hpne M [] (by rw [e, List.append_nil])
                have hn2 := str_neL (enc_byts M) rsl.1 hne
                obtain ⟨E, hEE⟩ : ∃ E, E = enc M := ⟨_, rfl⟩
                obtain ⟨E2, hEE2⟩ : ∃ E2, E2 = (bs.drop a).take k ++ [0] := ⟨_, rfl⟩
                rw [← hEE, ← hEE2] at hn2
                rw [← hEE2] at rsl
                have hn3 : ((strOfNums E).toList == (strOfNums E2).toList) = false := by simpa using hn2
                have HN : Hid (∀ W, Calls Tryd.prog 57 #[.int .i64 (M : Int)] W fun e w' => ∃ v', e = .returned v' ∧ w'.ownsRow W.heap.size 5 1 v' E.length (E.map (Value.int .u8)) ∧ Below W.heap.size W w') := mkHid (fun W => by rw [hEE]; exact refnum_any W M hMi)
                have HA : Hid (Byts E) := mkHid (by rw [hEE]; exact enc_byts M)
                have HR := mkHid rsl
                have cvB := (rsl.later ((Below.refl w.heap.size w).drew)).conv
                clear hEE hEE2 hne hval hM htk hsplit hpl hkd rsl hgood hM63 hpne
                go_wp2
                go_region_with (first | (go_at_call 57; (with_reducible refine (HN.out _).mono ?_); rintro e w2 ⟨v2, rfl, ho2, hb2⟩; have cv2 := (Rd.of_owns HA.out ho2).conv; have hb2' : Below w.heap.size w w2 := ((Below.refl _ _).drew).trans hb2; have cvB2 := (HR.out.later hb2').conv; clear hb2 ho2))
                all_goals go_wp2
                all_goals go_ret3
                all_goals exact ⟨HP.out, hb2'⟩
      · obtain rfl : k = 9 := by omega
        have HP := mkHid (refread_no HH.out)
        have hi2 : ¬ (a : Int) + ((9 : Nat) : Int) < (a : Int) + 9 := by omega
        clear hr
        go_wp2
        go_ret3
        exact ⟨HP.out, Below.refl _ _⟩
    · have hkk : Hid (Hi ((bs.drop a).take 9)) := mkHid (fun z hz => HH.out z (by
        have e : (bs.drop a).take k = bs.drop a := List.take_of_length_le (by rw [List.length_drop]; omega)
        rw [e]
        exact List.mem_of_mem_take hz))
      have HP := mkHid (refread_no hkk.out)
      have hi1 : ¬ (a : Int) + (k : Int) < bs.length := by omega
      clear hr
      go_wp2
      go_ret3
      exact ⟨HP.out, Below.refl _ _⟩
end Go.Proofs.YtaiklaipdocdmaaDoor

/- The document's reader: Num. -/
namespace Go.Proofs.YtaiklaipdocdmaaDoor
open Go.ChangeShapes Go.WideShapes Go.ChangeAt Go.RowKit
set_option maxRecDepth 100000

theorem refrd_yes (w : World) (v : Value) (bs : List Int) (a N : Nat) (r : List Int) (h : Rd w v bs) (ha : a ≤ bs.length) (hl : (bs.length : Int) ≤ 140737488355328) (hN : (N : Int) ≤ 9223372036854775807) (he : bs.drop a = enc N ++ r) :
    Calls Tryd.prog 87 #[v, .int .i64 (a : Int)] w fun e w' => e = .returned (.tuple #[.int .i64 (N : Int), .int .i64 ((a + (enc N).length : Nat) : Int), .bool true]) ∧ Below w.heap.size w w' := by
  refine (refrd_any w v bs a h ha hl).mono ?_
  rintro e w' ⟨⟨n, nx, ok, rfl, hp⟩, hb⟩
  refine ⟨?_, hb⟩
  rcases hp with ⟨rfl, M, s, rfl, _, rfl, hd⟩ | ⟨rfl, hno⟩
  · rw [he] at hd
    obtain ⟨rfl, _⟩ := enc_free N M r s hd
    rfl
  · exact absurd he (hno N r hN)
theorem refrd_none (w : World) (v : Value) (bs : List Int) (a : Nat) (h : Rd w v bs) (ha : a ≤ bs.length) (hl : (bs.length : Int) ≤ 140737488355328) (hno : ∀ (N : Nat) (r : List Int), (N : Int) ≤ 9223372036854775807 → bs.drop a ≠ enc N ++ r) :
    Calls Tryd.prog 87 #[v, .int .i64 (a : Int)] w fun e w' => ∃ n nx : Int, e = .returned (.tuple #[.int .i64 n, .int .i64 nx, .bool false]) ∧ Below w.heap.size w w' := by
  refine (refrd_any w v bs a h ha hl).mono ?_
  rintro e w' ⟨⟨n, nx, ok, rfl, hp⟩, hb⟩
  rcases hp with ⟨rfl, M, s, rfl, hM, rfl, hd⟩ | ⟨rfl, _⟩
  · exact absurd hd (hno M s hM)
  · exact ⟨n, nx, rfl, hb⟩
/-- The document's reader in memory. -/
def MR (w : World) (m : Nat) (v : Value) (i : Nat) : Prop := w.heap[m]? = some (.cells #[v, .int .i64 (i : Int)] 117 (0, 0))
theorem MR.lt {w : World} {m : Nat} {v : Value} {i : Nat} (h : MR w m v i) : m < w.heap.size := (Array.getElem?_eq_some_iff.1 h).1
theorem MR.late {w w' : World} {m : Nat} {v : Value} {i : Nat} (h : MR w m v i) (hb : Below w.heap.size w w') : MR w' m v i := by
  unfold MR
  rw [hb.block m h.lt]
  exact h
theorem below_kept (F : Nat → Prop) {w w' : World} (hb : Below w.heap.size w w') : Kept F w w' := ⟨hb.os, hb.tape, hb.output, hb.size, fun k hk _ => hb.block k hk⟩
theorem MR.step {w : World} {m : Nat} {v : Value} {i L : Nat} {l : List Int} (h : MR w m v i) (hL : L = l.length) : MR (w.setCell ⟨m, 1, none⟩ (.int .i64 ((i : Int) + (L : Int)))) m v (i + l.length) := by
  unfold MR
  rw [heap_set h, hL]
  simp
set_option maxHeartbeats 6400000 in
theorem refrnum_yes (w : World) (m : Nat) (v : Value) (bs : List Int) (i N : Nat) (r : List Int) (most : Int) (hM : MR w m v i) (h : Rd w v bs) (hi : i ≤ bs.length) (hl : (bs.length : Int) ≤ 140737488355328) (hN : (N : Int) ≤ 9223372036854775807) (he : bs.drop i = enc N ++ r) (hmost : (N : Int) ≤ most) :
    Calls Tryd.prog 61 #[.pointer (some ⟨m, 0, none⟩), .int .i64 most] w fun e w' => e = .returned (.tuple #[.int .i64 (N : Int), .int .i64 0]) ∧ MR w' m v (i + (enc N).length) ∧ Kept (fun j => j = m) w w' := by
  have c0 := cell_of_block (i := 0) hM rfl
  have c1 := cell_of_block (i := 1) hM rfl
  have HH := mkHid (And.intro hM (And.intro h (And.intro hi (And.intro hl (And.intro hN he)))))
  obtain ⟨L, hL⟩ : ∃ L, L = (enc N).length := ⟨_, rfl⟩
  have HL := mkHid hL
  clear hM h hi hl he hL
  have c0' : w.cell? ⟨m, 0, none⟩ = some v := c0
  have c1' : w.cell? ⟨m, 1, none⟩ = some (.int .i64 (i : Int)) := c1
  clear c0 c1
  go_enter Tryd.func61, Tryd.ntmps61
  go_wp2
  go_region_with (first | (go_at_call 87; refine (refrd_yes _ v bs i N r (HH.out.2.1.later (Below.refl _ _).drew) HH.out.2.2.1 HH.out.2.2.2.1 HH.out.2.2.2.2.1 HH.out.2.2.2.2.2).mono ?_; rintro e w2 ⟨rfl, hb2⟩; rw [← HL.out]; have hb2' : Below w.heap.size w w2 := ((Below.refl _ _).drew).trans hb2; have hM2 := HH.out.1.late hb2'; have d1 : w2.cell? ⟨m, 1, none⟩ = some (.int .i64 (i : Int)) := cell_of_block hM2 rfl; have d2 : w2.frozen? ⟨m, 1, none⟩ = false := frozen_of_block hM2; have HM2 := mkHid hM2; clear hb2 hM2))
  all_goals go_wp2
  all_goals go_ret2
  all_goals exact ⟨rfl, HM2.out.step HL.out, (below_kept _ hb2').trans (Kept.setCell (F := fun j => j = m) w2 (p := ⟨m, 1, none⟩) rfl _) (fun j hj => .inl hj)⟩
set_option maxHeartbeats 6400000 in
theorem refrnum_much (w : World) (m : Nat) (v : Value) (bs : List Int) (i N : Nat) (r : List Int) (most : Int) (hM : MR w m v i) (h : Rd w v bs) (hi : i ≤ bs.length) (hl : (bs.length : Int) ≤ 140737488355328) (hN : (N : Int) ≤ 9223372036854775807) (he : bs.drop i = enc N ++ r) (hmost : most < (N : Int)) :
    Calls Tryd.prog 61 #[.pointer (some ⟨m, 0, none⟩), .int .i64 most] w fun e w' => e = .returned (.tuple #[.int .i64 0, .int .i64 3]) ∧ Below w.heap.size w w' := by
  have c0' : w.cell? ⟨m, 0, none⟩ = some v := cell_of_block hM rfl
  have c1' : w.cell? ⟨m, 1, none⟩ = some (.int .i64 (i : Int)) := cell_of_block hM rfl
  have HH := mkHid (And.intro h (And.intro hi (And.intro hl (And.intro hN he))))
  clear hM h hi hl he
  go_enter Tryd.func61, Tryd.ntmps61
  go_wp2
  go_region_with (first | (go_at_call 87; refine (refrd_yes _ v bs i N r (HH.out.1.later (Below.refl _ _).drew) HH.out.2.1 HH.out.2.2.1 HH.out.2.2.2.1 HH.out.2.2.2.2).mono ?_; rintro e w2 ⟨rfl, hb2⟩; have hb2' : Below w.heap.size w w2 := ((Below.refl _ _).drew).trans hb2; clear hb2))
  all_goals go_wp2
  all_goals go_ret2
  all_goals exact ⟨rfl, hb2'⟩
set_option maxHeartbeats 6400000 in
theorem refrnum_none (w : World) (m : Nat) (v : Value) (bs : List Int) (i : Nat) (most : Int) (hM : MR w m v i) (h : Rd w v bs) (hi : i ≤ bs.length) (hl : (bs.length : Int) ≤ 140737488355328) (hno : ∀ (N : Nat) (r : List Int), (N : Int) ≤ 9223372036854775807 → bs.drop i ≠ enc N ++ r) :
    Calls Tryd.prog 61 #[.pointer (some ⟨m, 0, none⟩), .int .i64 most] w fun e w' => e = .returned (.tuple #[.int .i64 0, .int .i64 3]) ∧ Below w.heap.size w w' := by
  have c0' : w.cell? ⟨m, 0, none⟩ = some v := cell_of_block hM rfl
  have c1' : w.cell? ⟨m, 1, none⟩ = some (.int .i64 (i : Int)) := cell_of_block hM rfl
  have HH := mkHid (And.intro h (And.intro hi (And.intro hl hno)))
  clear hM h hi hl hno
  go_enter Tryd.func61, Tryd.ntmps61
  go_wp2
  go_region_with (first | (go_at_call 87; refine (refrd_none _ v bs i (HH.out.1.later (Below.refl _ _).drew) HH.out.2.1 HH.out.2.2.1 HH.out.2.2.2).mono ?_; rintro e w2 ⟨n, nx, rfl, hb2⟩; have hb2' : Below w.heap.size w w2 := ((Below.refl _ _).drew).trans hb2; clear hb2))
  all_goals go_wp2
  all_goals go_ret2
  all_goals exact ⟨rfl, hb2'⟩
end Go.Proofs.YtaiklaipdocdmaaDoor

