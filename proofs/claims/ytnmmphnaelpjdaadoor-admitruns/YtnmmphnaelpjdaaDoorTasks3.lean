/- Tasks: the share of all. -/
import Derived.Test.YtnmmphnaelpjdaaDoorTasks2
namespace Go.Proofs.YtnmmphnaelpjdaaDoor
open Go.ChangeShapes Go.WideShapes Go.ChangeAt Go.RowKit
set_option maxRecDepth 100000
attribute [local go_sem] World.cell?_alloc_some frozen_alloc_some

theorem take_cp {xs : List Tk} {j : Nat} {x : Tk} (hx : xs[j]? = some x) : (xs.map cp).take (j + 1) = (xs.map cp).take j ++ [cp x] := by
  rw [List.take_add_one]
  simp [hx]
theorem okq_takeT {xs : List Tk} (h : ∀ x ∈ xs, okT x) (j : Nat) : ∀ y ∈ (xs.map cp).take j, okq y := by
  intro y hy
  obtain ⟨x, hx, rfl⟩ := List.mem_map.mp (List.mem_of_mem_take hy)
  exact (h x hx).q
theorem tasks_no (w : World) (v : Value) (xs : List Tk) (a : Addr) (h : Tks w v xs) (hx : ¬ okTs xs) (he : w.cell? ⟨11, 0, none⟩ = some (vE a)) :
    Calls Tryd.prog 70 #[v] w fun e w' => e = .returned (.tuple #[vP 0 0 0 0, vE a]) ∧ Below w.heap.size w w' := by
  have HS := mkHid h
  obtain ⟨a0, cap, rfl, hl, h9⟩ := id h
  have HX := mkHid hx
  have HE := mkHid he
  clear h hx he h9
  go_enter Tryd.func70, Tryd.ntmps70
  go_wp2_with (go_at_call 69; refine (checkTasks_no _ _ xs a (HS.out.below (ba (Below.refl _ _) _)) HX.out (kl HE.out _)).mono ?_; rintro e w1 ⟨rfl, b1⟩; have HB1 := mkHid (bt (ba (Below.refl _ _) _) b1); obtain ⟨⟨z0, z1, z2, z3⟩, f0, f1, f2, f3⟩ := (P4.new w 0 0 0 0).below b1; clear b1)
  exact bodyPost_ret (v := .tuple #[vP 0 0 0 0, vE a]) (by simp [results, Tryd.results70, go_sem, z0, z1, z2, z3]) rfl ⟨rfl, (((HB1.out.setCell (Nat.le_refl _) _).setCell (Nat.le_refl _) _).setCell (Nat.le_refl _) _).setCell (Nat.le_refl _) _⟩
set_option maxHeartbeats 1600000 in
theorem tasks_ok (w : World) (v : Value) (xs : List Tk) (A B C E : Int) (h : Tks w v xs) (hx : okTs xs) (hp : Pt (sh (xs.map cp)) A B C E) :
    Calls Tryd.prog 70 #[v] w fun e w' => e = .returned (.tuple #[vP A B C E, .nilIface]) ∧ Below w.heap.size w w' := by
  obtain ⟨a0, cap, rfl, hl, h9⟩ := id h
  have HS := mkHid h
  have HX := mkHid hx
  have HP := mkHid hp
  clear h hx h9 hp
  go_enter Tryd.func70, Tryd.ntmps70
  go_wp2_with (first
    | (go_at_call 69; refine (checkTasks_ok _ _ xs (HS.out.below (ba (Below.refl _ _) _)) HX.out).mono ?_; rintro e w0 ⟨rfl, b0⟩; have HB0 := mkHid b0; clear b0)
    | (go_at_call 51; refine (nothing_is _).mono ?_; rintro e w1 ⟨rfl, b1⟩; have HB1 := mkHid (bt HB0.out b1); clear b1))
  have HQ : Hid (P4 (w1.alloc (oP 0 0 0 1)) w.heap.size 0 0 0 0) := mkHid (((P4.new w 0 0 0 0).below HB1.out).alloc _)
  have HR : Hid (P4 (w1.alloc (oP 0 0 0 1)) w1.heap.size 0 0 0 1) := mkHid (P4.new w1 0 0 0 1)
  have HC : Hid (Below w.heap.size w (w1.alloc (oP 0 0 0 1))) := mkHid (ba (bt (ba (Below.refl _ _) _) HB1.out) _)
  have HN : Hid (w.heap.size < w1.heap.size) := mkHid (by have := HB1.out.size; simp at this; omega)
  clear HB0 HB1
  go_loopw [17] (fun iv wr => ∃ j : Nat, ∃ A B C E : Int, iv = .int .i64 (j : Int) ∧ j ≤ xs.length ∧ Hid (Pt (sh ((xs.map cp).take j)) A B C E) ∧ Hid (P4 wr w.heap.size 0 0 0 0) ∧ Hid (P4 wr w1.heap.size A B C E) ∧ Hid (Below w.heap.size w wr)) (fun iv _ => xs.length - (intOf iv).toNat)
  case atStart => exact ⟨0, 0, 0, 0, 1, rfl, Nat.zero_le _, mkHid (by simpa [sh] using pt01), HQ, HR, HC⟩
  case round =>
    clear HQ HR HC
    obtain ⟨j, A1, B1, C1, E1, rfl, hj, HP1, HQ, HR, HC⟩ := hrel
    by_cases hlt : j < xs.length
    · obtain ⟨b, off, c, p, d, s, rfl, hxj, c0, c1, c2, c3⟩ := HS.out.at HC.out j hlt
      have hji : (j : Int) < xs.length := by omega
      have HK := mkHid (okT_at HX.out.2 hxj)
      obtain ⟨A2, B2, C2, E2, hp2⟩ := sh_pt ((xs.map cp).take (j + 1)) (okq_takeT HX.out.2 _) (by have := HX.out.1; rw [List.length_take, List.length_map]; omega)
      have HP2 := mkHid hp2
      rw [take_cp hxj, sh_snoc] at hp2
      have HP3 := mkHid hp2
      have HD := mkHid (sh_fit ((xs.map cp).take j) (okq_takeT HX.out.2 _) (by have := HX.out.1; rw [List.length_take, List.length_map]; omega)).1
      clear hxj hp2
      obtain ⟨⟨y0, y1, y2, y3⟩, g0, g1, g2, g3⟩ := id HR.out
      go_wp2_with (go_at_call 52; refine (with_is _ (q := c) (t := p) HP1.out HP3.out HK.out.q HD.out).mono ?_; rintro e w2 ⟨rfl, b2⟩; have HR2 := mkHid ((HR.out.alloc _).below b2); have HQ2 := mkHid ((HQ.out.alloc _).below b2); have HC2 := mkHid (bt (ba HC.out _) b2); clear b2 y0 y1 y2 y3 g0 g1 g2 g3 c0 c1 c2 c3; obtain ⟨⟨y0, y1, y2, y3⟩, g0, g1, g2, g3⟩ := id HR2.out)
      go_roundw
      case rel => exact ⟨j + 1, A2, B2, C2, E2, by go_num, by omega, HP2, mkHid (HQ2.out.other (by have := HN.out; omega) _ _ _ _), mkHid (HR2.out.set A2 B2 C2 E2), mkHid ((((HC2.out.setCell (Nat.le_of_lt HN.out) _).setCell (Nat.le_of_lt HN.out) _).setCell (Nat.le_of_lt HN.out) _).setCell (Nat.le_of_lt HN.out) _)⟩
      case measure => simp [intOf]; omega
    · obtain rfl : j = xs.length := by omega
      have hp1 := HP1.out
      rw [List.take_of_length_le (by simp)] at hp1
      obtain ⟨rfl, rfl, rfl, rfl⟩ := hp1.un HP.out
      clear hp1
      obtain ⟨⟨y0, y1, y2, y3⟩, g0, g1, g2, g3⟩ := id HR.out
      obtain ⟨⟨z0, z1, z2, z3⟩, f0, f1, f2, f3⟩ := id HQ.out
      go_wp2
      exact bodyPost_ret (v := .tuple #[vP A1 B1 C1 E1, .nilIface]) (by simp [results, Tryd.results70, go_sem, z0, z1, z2, z3]) rfl ⟨rfl, (((HC.out.setCell (Nat.le_refl _) _).setCell (Nat.le_refl _) _).setCell (Nat.le_refl _) _).setCell (Nat.le_refl _) _⟩
end Go.Proofs.YtnmmphnaelpjdaaDoor
