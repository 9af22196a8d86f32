/- Send, Copy, Nth. -/
import Derived.Test.YtaiklaipdocdmaaDoorNt6
namespace Go.Proofs.YtaiklaipdocdmaaDoor
open Go.ChangeShapes Go.WideShapes Go.ChangeAt Go.RowKit
set_option maxRecDepth 100000
attribute [local go_sem] World.cell?_alloc_some frozen_alloc_some

/-- What Send answers. -/
def SendP (own : Nat → Int × Int) (i : Int) (w : World) (p : Nat) (n : Nt) (l : Lt) (en ef : Addr) (e : Ending) (w' : World) : Prop :=
  ((isN l.fr && isN l.to) = false ∧ e = .returned (.tuple #[.int .i64 0, vE en]) ∧ Below w.heap.size w w') ∨ ((isN l.fr && isN l.to) = true ∧ AddP own i w p n l ef e w')
theorem AddP.num {own : Nat → Int × Int} {i : Int} {w w' : World} {p : Nat} {n : Nt} {l : Lt} {ef : Addr} {e : Ending} (h : AddP own i w p n l ef e w') : ∃ (x : Int) (ev : Value), e = .returned (.tuple #[.int .i64 x, ev]) := by
  rcases h with ⟨_, rfl, _⟩ | ⟨_, rfl, _⟩
  · exact ⟨_, _, rfl⟩
  · exact ⟨_, _, rfl⟩
set_option maxHeartbeats 6400000 in
theorem send_is (own : Nat → Int × Int) (i : Int) (w : World) (p : Nat) (v : Value) (ps : List Lp) (n : Nt) (h : NB own i w p v ps n) (fr to nu : Int) (x : Value) (bs : List Int) (hx : Rd w x bs) (hxl : bs.length ≤ 140737488352000) (hxp : ∀ w', Kept (fun k => k = p) w w' → Rd w' x bs) (hlast : (n.last : Int) ≤ 9223372036854775800) (en ef : Addr) (hen : w.cell? ⟨3, 0, none⟩ = some (vE en)) (he : w.cell? ⟨7, 0, none⟩ = some (vE ef)) :
    Calls Tryd.prog 13 #[.pointer (some ⟨p, 0, none⟩), .int .i64 fr, .int .i64 to, x] w (SendP own i w p n ⟨nu, fr, to, bs⟩ en ef) := by
  have HA := mkHid (add_is own i w p v ps n h fr to nu x bs hx hxl hxp hlast ef he)
  obtain ⟨xa, xc, rfl⟩ : ∃ a c, x = .slice a bs.length c := hx.2.imp fun a h => h.imp fun c h => h.1
  obtain ⟨b1, hb1⟩ : ∃ b, b = isN fr := ⟨_, rfl⟩
  obtain ⟨b2, hb2⟩ : ∃ b, b = isN to := ⟨_, rfl⟩
  have H1 := fun W => mkHid (isNode_is W fr)
  have H2 := fun W => mkHid (isNode_is W to)
  rw [← hb1] at H1
  rw [← hb2] at H2
  have HB := mkHid (And.intro hb1 hb2)
  clear hb1 hb2 h hx hxl hxp hlast he
  cases b1
  case false =>
    go_enter Tryd.func13, Tryd.ntmps13
    go_wp2_with (go_at_call 37; (with_reducible refine (H1 _).out.mono ?_); rintro r w' ⟨rfl, rfl⟩)
    go_quiet (fail)
    go_wp2
    go_ret2
    exact .inl ⟨by simp only; rw [← HB.out.1]; rfl, rfl, (Below.refl _ _).trans ⟨rfl, rfl, rfl, Nat.le_refl _, fun _ _ => rfl⟩⟩
  cases b2
  case false =>
    go_enter Tryd.func13, Tryd.ntmps13
    go_wp2_with (first | (go_at_call 37; (with_reducible refine (H1 _).out.mono ?_); rintro r w' ⟨rfl, rfl⟩) | (go_at_call 37; (with_reducible refine (H2 _).out.mono ?_); rintro r w' ⟨rfl, rfl⟩))
    go_quiet (fail)
    go_wp2
    go_ret2
    exact .inl ⟨by simp only; rw [← HB.out.1, ← HB.out.2]; rfl, rfl, (Below.refl _ _).trans ⟨rfl, rfl, rfl, Nat.le_refl _, fun _ _ => rfl⟩⟩
  go_enter Tryd.func13, Tryd.ntmps13
  go_wp2_with (first | (go_at_call 37; (with_reducible refine (H1 _).out.mono ?_); rintro r w' ⟨rfl, rfl⟩) | (go_at_call 37; (with_reducible refine (H2 _).out.mono ?_); rintro r w' ⟨rfl, rfl⟩) | (go_at_call 38; refine HA.out.mono ?_; rintro r w1 hp; obtain ⟨y, ev, rfl⟩ := hp.num; have HP := mkHid hp; clear hp))
  go_ret2
  exact .inr ⟨by simp only; rw [← HB.out.1, ← HB.out.2]; rfl, HP.out⟩
/-- What Copy answers. -/
def CopyP (own : Nat → Int × Int) (i : Int) (w : World) (p : Nat) (n : Nt) (t : Int) (eg ef : Addr) (e : Ending) (w' : World) : Prop :=
  (n.find t = none ∧ e = .returned (.tuple #[.int .i64 0, vE eg]) ∧ Below w.heap.size w w') ∨ (∃ (K : Nat) (l : Lt) (w1 : World), n.find t = some K ∧ n.ls[K]? = some l ∧ Below w.heap.size w w1 ∧ AddP own i w1 p n l ef e w')
set_option maxHeartbeats 6400000 in
theorem copy_is (own : Nat → Int × Int) (i : Int) (w : World) (p : Nat) (v : Value) (ps : List Lp) (n : Nt) (h : NB own i w p v ps n) (t : Int) (hlast : (n.last : Int) ≤ 9223372036854775800) (eg ef : Addr) (heg : w.cell? ⟨2, 0, none⟩ = some (vE eg)) (he : w.cell? ⟨7, 0, none⟩ = some (vE ef)) :
    Calls Tryd.prog 15 #[.pointer (some ⟨p, 0, none⟩), .int .i64 t] w (CopyP own i w p n t eg ef) := by
  have HF := mkHid (find_is own i w p v ps n h t eg heg)
  have HN := mkHid h
  have HEF := mkHid he
  have HLA := mkHid hlast
  obtain ⟨a, cap, rfl, _⟩ := h.shape
  clear h he heg hlast
  go_enter Tryd.func15, Tryd.ntmps15
  go_wp2_with (first
    | (go_at_call 39; refine HF.out.mono ?_; rintro r w1 ⟨b1, ⟨K, hK, rfl⟩ | ⟨hK, rfl⟩⟩ <;> have HB1 := mkHid b1 <;> have HK := mkHid hK <;> first | (obtain ⟨l0, h1, _, h2, _⟩ := find_some HK.out; obtain ⟨l, hl, hle⟩ := HN.out.ps h1; obtain ⟨c0, _, _, _⟩ := (HN.out.below HB1.out).cells; obtain ⟨g, off, rfl, k0, k1, k2, k3⟩ := (HN.out.below HB1.out).at hl; have HL0 := mkHid h1; have HLE := mkHid hle; obtain ⟨⟨nu, fr, to, bs⟩, la, lc⟩ := l; simp only [bv] at k0 k1 k2 k3; have hKl : (K : Int) < (ps.length : Int) := (by rw [HN.out.len]; omega); have HL := mkHid hl; clear b1 hK hl h1 h2 hle) | clear b1 hK)
    | (go_at_call 38; refine (add_is own i (w1.alloc (oL (⟨nu, fr, to, bs⟩, la, lc))) p _ ps n (HN.out.below (ba HB1.out _)) fr to nu _ bs ((HN.out.bys _ (List.mem_of_getElem? HL.out)).later (ba HB1.out _)) (HN.out.small (List.mem_of_getElem? HL.out)) (fun w' hk => ((HN.out.bys _ (List.mem_of_getElem? HL.out)).later (ba HB1.out _)).kept hk (fun k e e2 => by subst e2; exact (HN.out.num_ne (List.mem_of_getElem? HL.out) (HN.out.ob _ (List.mem_of_getElem? HL.out) _ e)).1 HN.out.op)) HLA.out ef (kc HEF.out (ba HB1.out _))).mono ?_; rintro r w2 hp; obtain ⟨y, ev, rfl⟩ := hp.num; have HP := mkHid hp; clear hp))
  · go_ret2
    exact .inr ⟨K, l0, _, HK.out, HL0.out, ba HB1.out _, by rw [← HLE.out]; exact HP.out⟩
  · go_ret2
    exact .inl ⟨HK.out, rfl, HB1.out⟩
theorem rem_ex (a : Int) (L : Nat) (h : (1 : Int) ≤ L) : ∃ I : Nat, Int.tmod (Int.tmod a L + L) L = (I : Int) ∧ (I : Int) < L := by
  have h1 := Int.lt_tmod_of_pos a (show (0 : Int) < L by omega)
  have h3 : 0 ≤ Int.tmod a L + L := by omega
  have h4 := Int.tmod_nonneg (L : Int) h3
  have h5 := Int.tmod_lt_of_pos (Int.tmod a L + L) (show (0 : Int) < L by omega)
  exact ⟨(Int.tmod (Int.tmod a L + L) L).toNat, by omega, by omega⟩
set_option maxHeartbeats 6400000 in
theorem nth_is (own : Nat → Int × Int) (i : Int) (w : World) (p : Nat) (v : Value) (ps : List Lp) (n : Nt) (h : NB own i w p v ps n) (t : Int) :
    Calls Tryd.prog 14 #[.pointer (some ⟨p, 0, none⟩), .int .i64 t] w fun e w' => w' = w ∧ ((n.ls = [] ∧ e = .returned (.tuple #[.int .i64 0, .bool false])) ∨ (∃ (J : Nat) (l : Lt), n.ls[J]? = some l ∧ Int.tmod (Int.tmod t (n.ls.length : Int) + (n.ls.length : Int)) (n.ls.length : Int) = (J : Int) ∧ e = .returned (.tuple #[.int .i64 l.nu, .bool true]))) := by
  obtain ⟨c0, _, _, _⟩ := h.cells
  obtain ⟨a, cap, rfl, _⟩ := h.shape
  have hlen := h.len
  have hl4 := h.ok.len
  by_cases h0 : ps.length = 0
  · have hn : n.ls = [] := by rw [← List.length_eq_zero_iff]; omega
    have hz : ((ps.length : Int) == 0) = true := by rw [h0]; rfl
    have HN := mkHid hn
    clear h hlen hl4 hn
    obtain ⟨m, hm⟩ : ∃ m, m = ps.length := ⟨_, rfl⟩
    rw [← hm] at c0 hz
    clear hm h0
    go_enter Tryd.func14, Tryd.ntmps14
    go_wp2
    go_ret2
    exact ⟨rfl, .inl ⟨HN.out, rfl⟩⟩
  · have hz : ((ps.length : Int) == 0) = false := by rw [beq_eq_false_iff_ne]; omega
    obtain ⟨J, eJ, hJ⟩ := rem_ex t ps.length (by omega)
    have hs1 := Int.lt_tmod_of_pos t (show (0 : Int) < (ps.length : Int) by omega)
    have hs2 := Int.tmod_lt_of_pos t (show (0 : Int) < (ps.length : Int) by omega)
    have hw : wrap64 (t.tmod (ps.length : Int) + (ps.length : Int)) = t.tmod (ps.length : Int) + (ps.length : Int) := by unfold wrap64; omega
    obtain ⟨l, hl⟩ : ∃ l, ps[J]? = some l := ⟨_, List.getElem?_eq_getElem (by omega)⟩
    obtain ⟨g, off, rfl, k0, _, _, _⟩ := h.at hl
    have HE : Hid (n.ls[J]? = some l.1 ∧ Int.tmod (Int.tmod t (n.ls.length : Int) + (n.ls.length : Int)) (n.ls.length : Int) = (J : Int)) := mkHid ⟨h.ls hl, by rw [← hlen]; exact eJ⟩
    clear h hlen hl4 hl h0
    go_enter Tryd.func14, Tryd.ntmps14
    go_wp2
    go_ret2
    exact ⟨rfl, .inr ⟨J, l.1, HE.out.1, HE.out.2, rfl⟩⟩
end Go.Proofs.YtaiklaipdocdmaaDoor
