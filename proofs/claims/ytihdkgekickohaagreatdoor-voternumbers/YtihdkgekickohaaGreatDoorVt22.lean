import Derived.Test.YtihdkgekickohaaGreatDoorVhX
import Derived.Test.YtihdkgekickohaaGreatDoorOpenV
import Derived.Deep.RegionHeld3
namespace Go.Proofs.YtihdkgekickohaaGreatDoor
open Go.ChangeShapes Go.WideShapes Go.ChangeAt Go.RowKit
set_option maxRecDepth 100000
attribute [local go_sem] World.cell?_alloc_some frozen_alloc_some
theorem vfit {n:Int} (h1:-9223372036854775808 ≤ n) (h2:n ≤ 9223372036854775807):IntKind.i64.wrap n = n:=by rw [IntKind.wrap_i64];omega
theorem above_diff {a b:Bl} (h:a ≠ b):aboveB a b = !aboveB b a:=by
 obtain ⟨a1,a2⟩:=a
 obtain ⟨b1,b2⟩:=b
 unfold aboveB
 dsimp only
 by_cases h1:a1 = b1
 ·subst h1
  have h2:a2 ≠ b2:=fun e=>h (by rw [e])
  rw [if_pos rfl,if_pos rfl]
  by_cases h3:b2 < a2
  ·rw [decide_eq_true h3,decide_eq_false (by omega)];rfl
  ·rw [decide_eq_false h3,decide_eq_true (by omega)];rfl
 ·rw [if_neg h1,if_neg (fun e=>h1 e.symm)]
  by_cases h3:b1 < a1
  ·rw [decide_eq_true h3,decide_eq_false (by omega)];rfl
  ·rw [decide_eq_false h3,decide_eq_true (by omega)];rfl
structure CS (w:World) (a1 a2 b1 b2:Int) (w':World):Prop where
 x0:w'.cell? ⟨w.heap.size,0,none⟩ = some (.int .i64 a1)
 x1:w'.cell? ⟨w.heap.size,1,none⟩ = some (.int .i64 a2)
 y0:w'.cell? ⟨w.heap.size + 1,0,none⟩ = some (.int .i64 b1)
 y1:w'.cell? ⟨w.heap.size + 1,1,none⟩ = some (.int .i64 b2)
 bel:Below w.heap.size w w'
theorem CS.step {w:World} {a1 a2 b1 b2:Int} {W w':World} (h:CS w a1 a2 b1 b2 W) (hb:Below W.heap.size W w'):CS w a1 a2 b1 b2 w':=⟨kc h.x0 hb,kc h.x1 hb,kc h.y0 hb,kc h.y1 hb,bt h.bel hb⟩
set_option maxHeartbeats 12800000 in
theorem numbers_walk (w:World) (a b:Bl) (n:Int) (hn:-9223372036854775808 ≤ n ∧ n ≤ 9223372036854775807) (eN eB eL eS eF eM eY:Addr) (h:VErrs w eN eB eL eS eF eM eY) :
  Calls Tryz.prog 4 #[vB a,vB b,.int .i64 n] w fun e w'=>e = .returned (.bool true) ∧ Below w.heap.size w w':=by
 have HAL:=mkHid (fun W (hW:Below w.heap.size w W)=>valive W eN eB eL eS eF eM eY (h.below hW))
 have HAB:=mkHid (fun W=>above_any W a b)
 have HRB:=mkHid (fun W=>rabove_any W a b)
 have HBA:=mkHid (fun W=>above_any W b a)
 have HAA:=mkHid (fun W=>above_any W a a)
 obtain ⟨q,hq⟩:∃ q,q = halfI n:=⟨_,rfl⟩
 have HHF:=mkHid (fun W=>half_any W n hn.2)
 rw [← hq] at HHF
 have hqf:(n < 1 ∧ q = 0) ∨ (1 ≤ n ∧ q > n - q ∧ q - 1 ≤ n - (q - 1) ∧ 0 ≤ q ∧ q ≤ n):=by
  rw [hq];unfold halfI
  by_cases h1:n < 1
  ·rw [if_pos h1];omega
  ·rw [if_neg h1];omega
 rw [above_self] at HAA
 have hd:=@above_diff a b
 obtain ⟨A,hA⟩:∃ A,A = aboveB a b:=⟨_,rfl⟩
 obtain ⟨B,hB⟩:∃ B,B = aboveB b a:=⟨_,rfl⟩
 have hself:a = b → A = false ∧ B = false:=fun e=>by subst e;rw [hA,hB,above_self];exact ⟨rfl,rfl⟩
 rw [← hA] at HAB HRB hd
 rw [← hB] at HBA hd
 obtain ⟨a1,a2⟩:=a
 obtain ⟨b1,b2⟩:=b
 have HEQ:=fun W=>eq_bal W a1 a2 b1 b2
 obtain ⟨E,hE⟩:∃ E,E = (decide (a1 = b1) && decide (a2 = b2)):=⟨_,rfl⟩
 rw [← hE] at HEQ
 have hEf:(E = true ∧ A = false ∧ B = false) ∨ (E = false ∧ A = !B):=by
  by_cases h1:(a1,a2) = (b1,b2)
  ·left
   obtain ⟨h2,h3⟩:=hself h1
   simp at h1
   exact ⟨by rw [hE,h1.1,h1.2];simp,h2,h3⟩
  ·right
   refine ⟨?_,hd h1⟩
   rw [hE]
   by_cases h2:a1 = b1
   ·have h3:a2 ≠ b2:=fun e=>h1 (by rw [h2,e])
    simp [h3]
   ·simp [h2]
 clear hA hB hE hq hself hd h
 simp only [vB] at HAB HRB HBA HAA ⊢
 have CASES:∀ (E A B:Bool),(E = true ∧ A = false ∧ B = false) ∨ (E = false ∧ A = !B) → (E,A,B) = (true,false,false) ∨ (E,A,B) = (false,true,false) ∨ (E,A,B) = (false,false,true):=by decide
 have hcs:=CASES E A B hEf
 clear hEf CASES
 rcases hcs with hc | hc | hc <;> simp only [Prod.mk.injEq] at hc <;> obtain ⟨rfl,rfl,rfl⟩:=hc
 ·rcases hqf with ⟨h1,rfl⟩ | ⟨h1,h2,h3,h4,h5⟩
  ·skip
   go_enter Tryz.func4,Tryz.ntmps4
   go_wp2_with (first
    |(go_at_call 8;(refine (HAL.out _ (ba (ba (Below.refl _ w) (oB (a1,a2))) (oB (b1,b2)))).mono ?_);rintro e w1 ⟨rfl,b1x⟩;have HB1:=mkHid (bt (ba (ba (Below.refl _ w) (oB (a1,a2))) (oB (b1,b2))) b1x);have HX1:=mkHid (And.intro ((b1x.block w.heap.size (by simp;omega)).trans ((heap_alloc_old _ _ (by simp)).trans (heap_alloc_new w (oB (a1,a2))))) ((b1x.block (w.heap.size + 1) (by simp)).trans (two_of_two w (oB (a1,a2)) (oB (b1,b2)))));clear b1x)
    |(go_at_call 13;(refine (HHF.out _).mono ?_);rintro e w2 ⟨rfl,hw⟩;obtain rfl:=hw))
   obtain ⟨x0,x1⟩:=two_cells HX1.out.1
   obtain ⟨y0,y1⟩:=two_cells HX1.out.2
   clear HX1
   have HBD:=mkHid HB1.out.drew
   refine wp_region_held_drew (S:=fun w'=>w'.cell? ⟨w.heap.size,0,none⟩ = some (.int .i64 a1) ∧ w'.cell? ⟨w.heap.size,1,none⟩ = some (.int .i64 a2) ∧ w'.cell? ⟨w.heap.size + 1,0,none⟩ = some (.int .i64 b1) ∧ w'.cell? ⟨w.heap.size + 1,1,none⟩ = some (.int .i64 b2)) (by kernel_rfl) ⟨x0,x1,y0,y1⟩ (fun hHeld=>?_)
   refine tkE 0 12 (.agg #[.int .i64 a1,.int .i64 a2]) rfl rfl hHeld ?_
   (try simp only [List.set_cons_zero,List.set_cons_succ])
   refine tkE 1 13 (.agg #[.int .i64 b1,.int .i64 b2]) rfl rfl hHeld ?_
   (try simp only [List.set_cons_zero,List.set_cons_succ])
   refine tkE 3 15 (.agg #[.int .i64 a1,.int .i64 a2]) rfl rfl hHeld ?_
   (try simp only [List.set_cons_zero,List.set_cons_succ])
   refine tkE 4 16 (.agg #[.int .i64 b1,.int .i64 b2]) rfl rfl hHeld ?_
   (try simp only [List.set_cons_zero,List.set_cons_succ])
   refine wpAnyH_ready (rs:=[2]) (by kernel_rfl) (by simp) (AllReadyH.cons rfl (fun K hK=>?_) AllReadyH.nil)
   go_simp
   refine (HAB.out w2.drew).mono ?_
   rintro e w3 ⟨rfl,bw3⟩
   have fw3_0:w3.cell? ⟨w.heap.size,0,none⟩ = some (.int .i64 a1):=kc (show w2.drew.cell? _ = _ from x0) bw3
   have fw3_1:w3.cell? ⟨w.heap.size,1,none⟩ = some (.int .i64 a2):=kc (show w2.drew.cell? _ = _ from x1) bw3
   have fw3_2:w3.cell? ⟨w.heap.size + 1,0,none⟩ = some (.int .i64 b1):=kc (show w2.drew.cell? _ = _ from y0) bw3
   have fw3_3:w3.cell? ⟨w.heap.size + 1,1,none⟩ = some (.int .i64 b2):=kc (show w2.drew.cell? _ = _ from y1) bw3
   have HB3:=mkHid (bt HBD.out bw3)
   clear bw3 hHeld x0 x1 y0 y1
   refine hK.out _ _ ⟨fw3_0,fw3_1,fw3_2,fw3_3⟩ (fun hHeld=>?_)
   clear hK K
   (try simp only [Act.put])
   refine wpAnyH_ready (rs:=[5]) (by kernel_rfl) (by simp) (AllReadyH.cons rfl (fun K hK=>?_) AllReadyH.nil)
   go_simp
   refine (HRB.out w3).mono ?_
   rintro e w4 ⟨rfl,bw4⟩
   have fw4_0:w4.cell? ⟨w.heap.size,0,none⟩ = some (.int .i64 a1):=kc fw3_0 bw4
   have fw4_1:w4.cell? ⟨w.heap.size,1,none⟩ = some (.int .i64 a2):=kc fw3_1 bw4
   have fw4_2:w4.cell? ⟨w.heap.size + 1,0,none⟩ = some (.int .i64 b1):=kc fw3_2 bw4
   have fw4_3:w4.cell? ⟨w.heap.size + 1,1,none⟩ = some (.int .i64 b2):=kc fw3_3 bw4
   have HB4:=mkHid (bt HB3.out bw4)
   clear bw4 hHeld fw3_0 fw3_1 fw3_2 fw3_3
   refine hK.out _ _ ⟨fw4_0,fw4_1,fw4_2,fw4_3⟩ (fun hHeld=>?_)
   clear hK K
   (try simp only [Act.put])
   refine tkE 6 18 (.bool true) rfl rfl hHeld ?_
   (try simp only [List.set_cons_zero,List.set_cons_succ])
   refine tkE 7 19 (.bool true) rfl rfl hHeld ?_
   (try simp only [List.set_cons_zero,List.set_cons_succ])
   refine tkE 8 20 (.agg #[.int .i64 a1,.int .i64 a2]) rfl rfl hHeld ?_
   (try simp only [List.set_cons_zero,List.set_cons_succ])
   refine tkE 9 21 (.agg #[.int .i64 a1,.int .i64 a2]) rfl rfl hHeld ?_
   (try simp only [List.set_cons_zero,List.set_cons_succ])
   refine wpAnyH_ready (rs:=[10]) (by kernel_rfl) (by simp) (AllReadyH.cons rfl (fun K hK=>?_) AllReadyH.nil)
   go_simp
   refine (HAA.out w4).mono ?_
   rintro e w5 ⟨rfl,bw5⟩
   have fw5_0:w5.cell? ⟨w.heap.size,0,none⟩ = some (.int .i64 a1):=kc fw4_0 bw5
   have fw5_1:w5.cell? ⟨w.heap.size,1,none⟩ = some (.int .i64 a2):=kc fw4_1 bw5
   have fw5_2:w5.cell? ⟨w.heap.size + 1,0,none⟩ = some (.int .i64 b1):=kc fw4_2 bw5
   have fw5_3:w5.cell? ⟨w.heap.size + 1,1,none⟩ = some (.int .i64 b2):=kc fw4_3 bw5
   have HB5:=mkHid (bt HB4.out bw5)
   clear bw5 hHeld fw4_0 fw4_1 fw4_2 fw4_3
   refine hK.out _ _ ⟨fw5_0,fw5_1,fw5_2,fw5_3⟩ (fun hHeld=>?_)
   clear hK K
   (try simp only [Act.put])
   refine tkE 11 23 (.bool true) rfl rfl hHeld ?_
   (try simp only [List.set_cons_zero,List.set_cons_succ])
   refine tkE 12 24 (.bool true) rfl rfl hHeld ?_
   (try simp only [List.set_cons_zero,List.set_cons_succ])
   refine tkE 13 25 (.bool true) rfl rfl hHeld ?_
   (try simp only [List.set_cons_zero,List.set_cons_succ])
   refine tkE 14 26 (.agg #[.int .i64 a1,.int .i64 a2]) rfl rfl hHeld ?_
   (try simp only [List.set_cons_zero,List.set_cons_succ])
   refine tkE 15 27 (.agg #[.int .i64 b1,.int .i64 b2]) rfl rfl hHeld ?_
   (try simp only [List.set_cons_zero,List.set_cons_succ])
   refine tkE 16 28 (.bool true) rfl rfl hHeld ?_
   (try simp only [List.set_cons_zero,List.set_cons_succ])
   refine tkE 17 29 (.bool true) rfl rfl hHeld ?_
   (try simp only [List.set_cons_zero,List.set_cons_succ])
   refine takeD 18 30 (undef) rfl rfl (by kernel_rfl) (by kernel_rfl) (by kernel_rfl) (fun _ _ _ h=>h) (Or.inr ⟨by kernel_rfl,rfl⟩) hHeld ?_
   (try simp only [List.set_cons_zero,List.set_cons_succ])
   refine takeD 19 31 (undef) rfl rfl (by kernel_rfl) (by kernel_rfl) (by kernel_rfl) (fun _ _ _ h=>h) (Or.inr ⟨by kernel_rfl,rfl⟩) hHeld ?_
   (try simp only [List.set_cons_zero,List.set_cons_succ])
   refine takeD 21 33 (undef) rfl rfl (by kernel_rfl) (by kernel_rfl) (by kernel_rfl) (fun _ _ _ h=>h) (Or.inr ⟨by kernel_rfl,rfl⟩) hHeld ?_
   (try simp only [List.set_cons_zero,List.set_cons_succ])
   refine takeD 22 34 (undef) rfl rfl (by kernel_rfl) (by kernel_rfl) (by kernel_rfl) (fun _ _ _ h=>h) (Or.inr ⟨by kernel_rfl,rfl⟩) hHeld ?_
   (try simp only [List.set_cons_zero,List.set_cons_succ])
   refine wpAnyH_ready (rs:=[20]) (by kernel_rfl) (by simp) (AllReadyH.cons rfl (fun K hK=>?_) AllReadyH.nil)
   go_simp
   refine hK.out _ _ hHeld (fun hHeld=>?_)
   clear hK K
   (try simp only [Act.put])
   refine wpAnyH_ready (rs:=[23]) (by kernel_rfl) (by simp) (AllReadyH.cons rfl (fun K hK=>?_) AllReadyH.nil)
   go_simp
   refine hK.out _ _ hHeld (fun hHeld=>?_)
   clear hK K
   (try simp only [Act.put])
   refine takeD 24 36 (undef) rfl rfl (by kernel_rfl) (by kernel_rfl) (by kernel_rfl) (fun _ _ _ h=>h) (Or.inr ⟨by kernel_rfl,rfl⟩) hHeld ?_
   (try simp only [List.set_cons_zero,List.set_cons_succ])
   refine tkE 25 37 (.bool true) rfl rfl hHeld ?_
   (try simp only [List.set_cons_zero,List.set_cons_succ])
   refine tkE 26 38 (.bool true) rfl rfl hHeld ?_
   (try simp only [List.set_cons_zero,List.set_cons_succ])
   refine tkE 27 39 (.bool true) rfl rfl hHeld ?_
   (try simp only [List.set_cons_zero,List.set_cons_succ])
   refine tkE 28 40 (.int .i64 n) rfl rfl hHeld ?_
   (try simp only [List.set_cons_zero,List.set_cons_succ])
   refine tkE 29 41 (.bool true) rfl rfl hHeld ?_
   (try simp only [List.set_cons_zero,List.set_cons_succ])
   refine tkE 30 42 (.bool true) rfl rfl hHeld ?_
   (try simp only [List.set_cons_zero,List.set_cons_succ])
   refine tkE 31 43 (.int .i64 0) rfl rfl hHeld ?_
   (try simp only [List.set_cons_zero,List.set_cons_succ])
   refine tkE 32 44 (.bool true) rfl rfl hHeld ?_
   (try simp only [List.set_cons_zero,List.set_cons_succ])
   refine tkE 33 45 (.bool true) rfl rfl hHeld ?_
   (try simp only [List.set_cons_zero,List.set_cons_succ])
   refine tkE 34 46 (.bool true) rfl rfl hHeld ?_
   (try simp only [List.set_cons_zero,List.set_cons_succ])
   refine takeD 35 47 (undef) rfl rfl (by kernel_rfl) (by kernel_rfl) (by kernel_rfl) (fun _ _ _ h=>h) (Or.inr ⟨by kernel_rfl,rfl⟩) hHeld ?_
   (try simp only [List.set_cons_zero,List.set_cons_succ])
   refine takeD 36 48 (undef) rfl rfl (by kernel_rfl) (by kernel_rfl) (by kernel_rfl) (fun _ _ _ h=>h) (Or.inr ⟨by kernel_rfl,rfl⟩) hHeld ?_
   (try simp only [List.set_cons_zero,List.set_cons_succ])
   refine takeD 37 49 (undef) rfl rfl (by kernel_rfl) (by kernel_rfl) (by kernel_rfl) (fun _ _ _ h=>h) (Or.inr ⟨by kernel_rfl,rfl⟩) hHeld ?_
   (try simp only [List.set_cons_zero,List.set_cons_succ])
   refine takeD 38 50 (undef) rfl rfl (by kernel_rfl) (by kernel_rfl) (by kernel_rfl) (fun _ _ _ h=>h) (Or.inr ⟨by kernel_rfl,rfl⟩) hHeld ?_
   (try simp only [List.set_cons_zero,List.set_cons_succ])
   refine takeD 39 51 (undef) rfl rfl (by kernel_rfl) (by kernel_rfl) (by kernel_rfl) (fun _ _ _ h=>h) (Or.inr ⟨by kernel_rfl,rfl⟩) hHeld ?_
   (try simp only [List.set_cons_zero,List.set_cons_succ])
   refine takeD 40 52 (undef) rfl rfl (by kernel_rfl) (by kernel_rfl) (by kernel_rfl) (fun _ _ _ h=>h) (Or.inr ⟨by kernel_rfl,rfl⟩) hHeld ?_
   (try simp only [List.set_cons_zero,List.set_cons_succ])
   refine takeD 41 53 (undef) rfl rfl (by kernel_rfl) (by kernel_rfl) (by kernel_rfl) (fun _ _ _ h=>h) (Or.inr ⟨by kernel_rfl,rfl⟩) hHeld ?_
   (try simp only [List.set_cons_zero,List.set_cons_succ])
   refine takeD 42 54 (undef) rfl rfl (by kernel_rfl) (by kernel_rfl) (by kernel_rfl) (fun _ _ _ h=>h) (Or.inr ⟨by kernel_rfl,rfl⟩) hHeld ?_
   (try simp only [List.set_cons_zero,List.set_cons_succ])
   refine takeD 43 55 (undef) rfl rfl (by kernel_rfl) (by kernel_rfl) (by kernel_rfl) (fun _ _ _ h=>h) (Or.inr ⟨by kernel_rfl,rfl⟩) hHeld ?_
   (try simp only [List.set_cons_zero,List.set_cons_succ])
   refine takeD 44 56 (undef) rfl rfl (by kernel_rfl) (by kernel_rfl) (by kernel_rfl) (fun _ _ _ h=>h) (Or.inr ⟨by kernel_rfl,rfl⟩) hHeld ?_
   (try simp only [List.set_cons_zero,List.set_cons_succ])
   refine takeD 45 57 (undef) rfl rfl (by kernel_rfl) (by kernel_rfl) (by kernel_rfl) (fun _ _ _ h=>h) (Or.inr ⟨by kernel_rfl,rfl⟩) hHeld ?_
   (try simp only [List.set_cons_zero,List.set_cons_succ])
   refine takeD 46 58 (undef) rfl rfl (by kernel_rfl) (by kernel_rfl) (by kernel_rfl) (fun _ _ _ h=>h) (Or.inr ⟨by kernel_rfl,rfl⟩) hHeld ?_
   (try simp only [List.set_cons_zero,List.set_cons_succ])
   refine takeD 47 59 (undef) rfl rfl (by kernel_rfl) (by kernel_rfl) (by kernel_rfl) (fun _ _ _ h=>h) (Or.inr ⟨by kernel_rfl,rfl⟩) hHeld ?_
   (try simp only [List.set_cons_zero,List.set_cons_succ])
   refine takeD 48 60 (undef) rfl rfl (by kernel_rfl) (by kernel_rfl) (by kernel_rfl) (fun _ _ _ h=>h) (Or.inr ⟨by kernel_rfl,rfl⟩) hHeld ?_
   (try simp only [List.set_cons_zero,List.set_cons_succ])
   refine takeD 49 61 (undef) rfl rfl (by kernel_rfl) (by kernel_rfl) (by kernel_rfl) (fun _ _ _ h=>h) (Or.inr ⟨by kernel_rfl,rfl⟩) hHeld ?_
   (try simp only [List.set_cons_zero,List.set_cons_succ])
   refine takeD 50 62 (undef) rfl rfl (by kernel_rfl) (by kernel_rfl) (by kernel_rfl) (fun _ _ _ h=>h) (Or.inr ⟨by kernel_rfl,rfl⟩) hHeld ?_
   (try simp only [List.set_cons_zero,List.set_cons_succ])
   refine takeD 51 63 (undef) rfl rfl (by kernel_rfl) (by kernel_rfl) (by kernel_rfl) (fun _ _ _ h=>h) (Or.inr ⟨by kernel_rfl,rfl⟩) hHeld ?_
   (try simp only [List.set_cons_zero,List.set_cons_succ])
   refine takeD 52 64 (undef) rfl rfl (by kernel_rfl) (by kernel_rfl) (by kernel_rfl) (fun _ _ _ h=>h) (Or.inr ⟨by kernel_rfl,rfl⟩) hHeld ?_
   (try simp only [List.set_cons_zero,List.set_cons_succ])
   refine tkE 53 65 (.bool true) rfl rfl hHeld ?_
   (try simp only [List.set_cons_zero,List.set_cons_succ])
   refine tkE 54 66 (.bool true) rfl rfl hHeld ?_
   (try simp only [List.set_cons_zero,List.set_cons_succ])
   refine tkE 55 6 (.bool true) rfl rfl hHeld ?_
   (try simp only [List.set_cons_zero,List.set_cons_succ])
   refine wpAnyH_done (by kernel_rfl) ?_ _
   go_wp2
   go_ret
   exact ⟨rfl,HB5.out⟩
  ·skip
   have ew1:IntKind.i64.wrap (n - q) = n - q:=vfit (by omega) (by omega)
   have ew2:IntKind.i64.wrap (q - 1) = q - 1:=vfit (by omega) (by omega)
   have ew3:IntKind.i64.wrap (n - (q - 1)) = n - (q - 1):=vfit (by omega) (by omega)
   go_enter Tryz.func4,Tryz.ntmps4
   go_wp2_with (first
    |(go_at_call 8;(refine (HAL.out _ (ba (ba (Below.refl _ w) (oB (a1,a2))) (oB (b1,b2)))).mono ?_);rintro e w1 ⟨rfl,b1x⟩;have HB1:=mkHid (bt (ba (ba (Below.refl _ w) (oB (a1,a2))) (oB (b1,b2))) b1x);have HX1:=mkHid (And.intro ((b1x.block w.heap.size (by simp;omega)).trans ((heap_alloc_old _ _ (by simp)).trans (heap_alloc_new w (oB (a1,a2))))) ((b1x.block (w.heap.size + 1) (by simp)).trans (two_of_two w (oB (a1,a2)) (oB (b1,b2)))));clear b1x)
    |(go_at_call 13;(refine (HHF.out _).mono ?_);rintro e w2 ⟨rfl,hw⟩;obtain rfl:=hw))
   obtain ⟨x0,x1⟩:=two_cells HX1.out.1
   obtain ⟨y0,y1⟩:=two_cells HX1.out.2
   clear HX1
   have HBD:=mkHid HB1.out.drew
   refine wp_region_held_drew (S:=fun w'=>w'.cell? ⟨w.heap.size,0,none⟩ = some (.int .i64 a1) ∧ w'.cell? ⟨w.heap.size,1,none⟩ = some (.int .i64 a2) ∧ w'.cell? ⟨w.heap.size + 1,0,none⟩ = some (.int .i64 b1) ∧ w'.cell? ⟨w.heap.size + 1,1,none⟩ = some (.int .i64 b2)) (by kernel_rfl) ⟨x0,x1,y0,y1⟩ (fun hHeld=>?_)
   refine tkE 0 12 (.agg #[.int .i64 a1,.int .i64 a2]) rfl rfl hHeld ?_
   (try simp only [List.set_cons_zero,List.set_cons_succ])
   refine tkE 1 13 (.agg #[.int .i64 b1,.int .i64 b2]) rfl rfl hHeld ?_
   (try simp only [List.set_cons_zero,List.set_cons_succ])
   refine tkE 3 15 (.agg #[.int .i64 a1,.int .i64 a2]) rfl rfl hHeld ?_
   (try simp only [List.set_cons_zero,List.set_cons_succ])
   refine tkE 4 16 (.agg #[.int .i64 b1,.int .i64 b2]) rfl rfl hHeld ?_
   (try simp only [List.set_cons_zero,List.set_cons_succ])
   refine wpAnyH_ready (rs:=[2]) (by kernel_rfl) (by simp) (AllReadyH.cons rfl (fun K hK=>?_) AllReadyH.nil)
   go_simp
   refine (HAB.out w2.drew).mono ?_
   rintro e w3 ⟨rfl,bw3⟩
   have fw3_0:w3.cell? ⟨w.heap.size,0,none⟩ = some (.int .i64 a1):=kc (show w2.drew.cell? _ = _ from x0) bw3
   have fw3_1:w3.cell? ⟨w.heap.size,1,none⟩ = some (.int .i64 a2):=kc (show w2.drew.cell? _ = _ from x1) bw3
   have fw3_2:w3.cell? ⟨w.heap.size + 1,0,none⟩ = some (.int .i64 b1):=kc (show w2.drew.cell? _ = _ from y0) bw3
   have fw3_3:w3.cell? ⟨w.heap.size + 1,1,none⟩ = some (.int .i64 b2):=kc (show w2.drew.cell? _ = _ from y1) bw3
   have HB3:=mkHid (bt HBD.out bw3)
   clear bw3 hHeld x0 x1 y0 y1
   refine hK.out _ _ ⟨fw3_0,fw3_1,fw3_2,fw3_3⟩ (fun hHeld=>?_)
   clear hK K
   (try simp only [Act.put])
   refine wpAnyH_ready (rs:=[5]) (by kernel_rfl) (by simp) (AllReadyH.cons rfl (fun K hK=>?_) AllReadyH.nil)
   go_simp
   refine (HRB.out w3).mono ?_
   rintro e w4 ⟨rfl,bw4⟩
   have fw4_0:w4.cell? ⟨w.heap.size,0,none⟩ = some (.int .i64 a1):=kc fw3_0 bw4
   have fw4_1:w4.cell? ⟨w.heap.size,1,none⟩ = some (.int .i64 a2):=kc fw3_1 bw4
   have fw4_2:w4.cell? ⟨w.heap.size + 1,0,none⟩ = some (.int .i64 b1):=kc fw3_2 bw4
   have fw4_3:w4.cell? ⟨w.heap.size + 1,1,none⟩ = some (.int .i64 b2):=kc fw3_3 bw4
   have HB4:=mkHid (bt HB3.out bw4)
   clear bw4 hHeld fw3_0 fw3_1 fw3_2 fw3_3
   refine hK.out _ _ ⟨fw4_0,fw4_1,fw4_2,fw4_3⟩ (fun hHeld=>?_)
   clear hK K
   (try simp only [Act.put])
   refine tkE 6 18 (.bool true) rfl rfl hHeld ?_
   (try simp only [List.set_cons_zero,List.set_cons_succ])
   refine tkE 7 19 (.bool true) rfl rfl hHeld ?_
   (try simp only [List.set_cons_zero,List.set_cons_succ])
   refine tkE 8 20 (.agg #[.int .i64 a1,.int .i64 a2]) rfl rfl hHeld ?_
   (try simp only [List.set_cons_zero,List.set_cons_succ])
   refine tkE 9 21 (.agg #[.int .i64 a1,.int .i64 a2]) rfl rfl hHeld ?_
   (try simp only [List.set_cons_zero,List.set_cons_succ])
   refine wpAnyH_ready (rs:=[10]) (by kernel_rfl) (by simp) (AllReadyH.cons rfl (fun K hK=>?_) AllReadyH.nil)
   go_simp
   refine (HAA.out w4).mono ?_
   rintro e w5 ⟨rfl,bw5⟩
   have fw5_0:w5.cell? ⟨w.heap.size,0,none⟩ = some (.int .i64 a1):=kc fw4_0 bw5
   have fw5_1:w5.cell? ⟨w.heap.size,1,none⟩ = some (.int .i64 a2):=kc fw4_1 bw5
   have fw5_2:w5.cell? ⟨w.heap.size + 1,0,none⟩ = some (.int .i64 b1):=kc fw4_2 bw5
   have fw5_3:w5.cell? ⟨w.heap.size + 1,1,none⟩ = some (.int .i64 b2):=kc fw4_3 bw5
   have HB5:=mkHid (bt HB4.out bw5)
   clear bw5 hHeld fw4_0 fw4_1 fw4_2 fw4_3
   refine hK.out _ _ ⟨fw5_0,fw5_1,fw5_2,fw5_3⟩ (fun hHeld=>?_)
   clear hK K
   (try simp only [Act.put])
   refine tkE 11 23 (.bool true) rfl rfl hHeld ?_
   (try simp only [List.set_cons_zero,List.set_cons_succ])
   refine tkE 12 24 (.bool true) rfl rfl hHeld ?_
   (try simp only [List.set_cons_zero,List.set_cons_succ])
   refine tkE 13 25 (.bool true) rfl rfl hHeld ?_
   (try simp only [List.set_cons_zero,List.set_cons_succ])
   refine tkE 14 26 (.agg #[.int .i64 a1,.int .i64 a2]) rfl rfl hHeld ?_
   (try simp only [List.set_cons_zero,List.set_cons_succ])
   refine tkE 15 27 (.agg #[.int .i64 b1,.int .i64 b2]) rfl rfl hHeld ?_
   (try simp only [List.set_cons_zero,List.set_cons_succ])
   refine tkE 16 28 (.bool true) rfl rfl hHeld ?_
   (try simp only [List.set_cons_zero,List.set_cons_succ])
   refine tkE 17 29 (.bool true) rfl rfl hHeld ?_
   (try simp only [List.set_cons_zero,List.set_cons_succ])
   refine takeD 18 30 (undef) rfl rfl (by kernel_rfl) (by kernel_rfl) (by kernel_rfl) (fun _ _ _ h=>h) (Or.inr ⟨by kernel_rfl,rfl⟩) hHeld ?_
   (try simp only [List.set_cons_zero,List.set_cons_succ])
   refine takeD 19 31 (undef) rfl rfl (by kernel_rfl) (by kernel_rfl) (by kernel_rfl) (fun _ _ _ h=>h) (Or.inr ⟨by kernel_rfl,rfl⟩) hHeld ?_
   (try simp only [List.set_cons_zero,List.set_cons_succ])
   refine takeD 21 33 (undef) rfl rfl (by kernel_rfl) (by kernel_rfl) (by kernel_rfl) (fun _ _ _ h=>h) (Or.inr ⟨by kernel_rfl,rfl⟩) hHeld ?_
   (try simp only [List.set_cons_zero,List.set_cons_succ])
   refine takeD 22 34 (undef) rfl rfl (by kernel_rfl) (by kernel_rfl) (by kernel_rfl) (fun _ _ _ h=>h) (Or.inr ⟨by kernel_rfl,rfl⟩) hHeld ?_
   (try simp only [List.set_cons_zero,List.set_cons_succ])
   refine wpAnyH_ready (rs:=[20]) (by kernel_rfl) (by simp) (AllReadyH.cons rfl (fun K hK=>?_) AllReadyH.nil)
   go_simp
   refine hK.out _ _ hHeld (fun hHeld=>?_)
   clear hK K
   (try simp only [Act.put])
   refine wpAnyH_ready (rs:=[23]) (by kernel_rfl) (by simp) (AllReadyH.cons rfl (fun K hK=>?_) AllReadyH.nil)
   go_simp
   refine hK.out _ _ hHeld (fun hHeld=>?_)
   clear hK K
   (try simp only [Act.put])
   refine takeD 24 36 (undef) rfl rfl (by kernel_rfl) (by kernel_rfl) (by kernel_rfl) (fun _ _ _ h=>h) (Or.inr ⟨by kernel_rfl,rfl⟩) hHeld ?_
   (try simp only [List.set_cons_zero,List.set_cons_succ])
   refine tkE 25 37 (.bool true) rfl rfl hHeld ?_
   (try simp only [List.set_cons_zero,List.set_cons_succ])
   refine tkE 26 38 (.bool true) rfl rfl hHeld ?_
   (try simp only [List.set_cons_zero,List.set_cons_succ])
   refine tkE 27 39 (.bool true) rfl rfl hHeld ?_
   (try simp only [List.set_cons_zero,List.set_cons_succ])
   refine tkE 28 40 (.int .i64 n) rfl rfl hHeld ?_
   (try simp only [List.set_cons_zero,List.set_cons_succ])
   refine tkE 29 41 (.bool false) rfl rfl hHeld ?_
   (try simp only [List.set_cons_zero,List.set_cons_succ])
   refine tkE 30 42 (.bool false) rfl rfl hHeld ?_
   (try simp only [List.set_cons_zero,List.set_cons_succ])
   refine takeD 31 43 (undef) rfl rfl (by kernel_rfl) (by kernel_rfl) (by kernel_rfl) (fun _ _ _ h=>h) (Or.inr ⟨by kernel_rfl,rfl⟩) hHeld ?_
   (try simp only [List.set_cons_zero,List.set_cons_succ])
   refine takeD 32 44 (undef) rfl rfl (by kernel_rfl) (by kernel_rfl) (by kernel_rfl) (fun _ _ _ h=>h) (Or.inr ⟨by kernel_rfl,rfl⟩) hHeld ?_
   (try simp only [List.set_cons_zero,List.set_cons_succ])
   refine tkE 33 45 (.bool false) rfl rfl hHeld ?_
   (try simp only [List.set_cons_zero,List.set_cons_succ])
   refine tkE 34 46 (.bool false) rfl rfl hHeld ?_
   (try simp only [List.set_cons_zero,List.set_cons_succ])
   refine tkE 35 47 (.int .i64 n) rfl rfl hHeld ?_
   (try simp only [List.set_cons_zero,List.set_cons_succ])
   refine tkE 36 48 (.bool true) rfl rfl hHeld ?_
   (try simp only [List.set_cons_zero,List.set_cons_succ])
   refine tkE 37 49 (.bool true) rfl rfl hHeld ?_
   (try simp only [List.set_cons_zero,List.set_cons_succ])
   refine tkE 38 50 (.int .i64 q) rfl rfl hHeld ?_
   (try simp only [List.set_cons_zero,List.set_cons_succ])
   refine tkE 39 51 (.int .i64 n) rfl rfl hHeld ?_
   (try simp only [List.set_cons_zero,List.set_cons_succ])
   refine tkE 40 52 (.int .i64 q) rfl rfl hHeld ?_
   (try simp only [List.set_cons_zero,List.set_cons_succ])
   refine tkE 41 53 (.int .i64 (n - q)) rfl rfl hHeld ?_
   (try simp only [List.set_cons_zero,List.set_cons_succ])
   refine tkE 42 54 (.bool true) rfl rfl hHeld ?_
   (try simp only [List.set_cons_zero,List.set_cons_succ])
   refine tkE 43 55 (.bool true) rfl rfl hHeld ?_
   (try simp only [List.set_cons_zero,List.set_cons_succ])
   refine tkE 44 56 (.bool true) rfl rfl hHeld ?_
   (try simp only [List.set_cons_zero,List.set_cons_succ])
   refine tkE 45 57 (.int .i64 q) rfl rfl hHeld ?_
   (try simp only [List.set_cons_zero,List.set_cons_succ])
   refine tkE 46 58 (.int .i64 (q - 1)) rfl rfl hHeld ?_
   (try simp only [List.set_cons_zero,List.set_cons_succ])
   refine tkE 47 59 (.int .i64 n) rfl rfl hHeld ?_
   (try simp only [List.set_cons_zero,List.set_cons_succ])
   refine tkE 48 60 (.int .i64 q) rfl rfl hHeld ?_
   (try simp only [List.set_cons_zero,List.set_cons_succ])
   refine tkE 49 61 (.int .i64 (q - 1)) rfl rfl hHeld ?_
   (try simp only [List.set_cons_zero,List.set_cons_succ])
   refine tkE 50 62 (.int .i64 (n - (q - 1))) rfl rfl hHeld ?_
   (try simp only [List.set_cons_zero,List.set_cons_succ])
   refine tkE 51 63 (.bool true) rfl rfl hHeld ?_
   (try simp only [List.set_cons_zero,List.set_cons_succ])
   refine tkE 52 64 (.bool true) rfl rfl hHeld ?_
   (try simp only [List.set_cons_zero,List.set_cons_succ])
   refine tkE 53 65 (.bool true) rfl rfl hHeld ?_
   (try simp only [List.set_cons_zero,List.set_cons_succ])
   refine tkE 54 66 (.bool true) rfl rfl hHeld ?_
   (try simp only [List.set_cons_zero,List.set_cons_succ])
   refine tkE 55 6 (.bool true) rfl rfl hHeld ?_
   (try simp only [List.set_cons_zero,List.set_cons_succ])
   refine wpAnyH_done (by kernel_rfl) ?_ _
   go_wp2
   go_ret
   exact ⟨rfl,HB5.out⟩
 ·rcases hqf with ⟨h1,rfl⟩ | ⟨h1,h2,h3,h4,h5⟩
  ·skip
   go_enter Tryz.func4,Tryz.ntmps4
   go_wp2_with (first
    |(go_at_call 8;(refine (HAL.out _ (ba (ba (Below.refl _ w) (oB (a1,a2))) (oB (b1,b2)))).mono ?_);rintro e w1 ⟨rfl,b1x⟩;have HB1:=mkHid (bt (ba (ba (Below.refl _ w) (oB (a1,a2))) (oB (b1,b2))) b1x);have HX1:=mkHid (And.intro ((b1x.block w.heap.size (by simp;omega)).trans ((heap_alloc_old _ _ (by simp)).trans (heap_alloc_new w (oB (a1,a2))))) ((b1x.block (w.heap.size + 1) (by simp)).trans (two_of_two w (oB (a1,a2)) (oB (b1,b2)))));clear b1x)
    |(go_at_call 13;(refine (HHF.out _).mono ?_);rintro e w2 ⟨rfl,hw⟩;obtain rfl:=hw))
   obtain ⟨x0,x1⟩:=two_cells HX1.out.1
   obtain ⟨y0,y1⟩:=two_cells HX1.out.2
   clear HX1
   have HBD:=mkHid HB1.out.drew
   refine wp_region_held_drew (S:=fun w'=>w'.cell? ⟨w.heap.size,0,none⟩ = some (.int .i64 a1) ∧ w'.cell? ⟨w.heap.size,1,none⟩ = some (.int .i64 a2) ∧ w'.cell? ⟨w.heap.size + 1,0,none⟩ = some (.int .i64 b1) ∧ w'.cell? ⟨w.heap.size + 1,1,none⟩ = some (.int .i64 b2)) (by kernel_rfl) ⟨x0,x1,y0,y1⟩ (fun hHeld=>?_)
   refine tkE 0 12 (.agg #[.int .i64 a1,.int .i64 a2]) rfl rfl hHeld ?_
   (try simp only [List.set_cons_zero,List.set_cons_succ])
   refine tkE 1 13 (.agg #[.int .i64 b1,.int .i64 b2]) rfl rfl hHeld ?_
   (try simp only [List.set_cons_zero,List.set_cons_succ])
   refine tkE 3 15 (.agg #[.int .i64 a1,.int .i64 a2]) rfl rfl hHeld ?_
   (try simp only [List.set_cons_zero,List.set_cons_succ])
   refine tkE 4 16 (.agg #[.int .i64 b1,.int .i64 b2]) rfl rfl hHeld ?_
   (try simp only [List.set_cons_zero,List.set_cons_succ])
   refine wpAnyH_ready (rs:=[2]) (by kernel_rfl) (by simp) (AllReadyH.cons rfl (fun K hK=>?_) AllReadyH.nil)
   go_simp
   refine (HAB.out w2.drew).mono ?_
   rintro e w3 ⟨rfl,bw3⟩
   have fw3_0:w3.cell? ⟨w.heap.size,0,none⟩ = some (.int .i64 a1):=kc (show w2.drew.cell? _ = _ from x0) bw3
   have fw3_1:w3.cell? ⟨w.heap.size,1,none⟩ = some (.int .i64 a2):=kc (show w2.drew.cell? _ = _ from x1) bw3
   have fw3_2:w3.cell? ⟨w.heap.size + 1,0,none⟩ = some (.int .i64 b1):=kc (show w2.drew.cell? _ = _ from y0) bw3
   have fw3_3:w3.cell? ⟨w.heap.size + 1,1,none⟩ = some (.int .i64 b2):=kc (show w2.drew.cell? _ = _ from y1) bw3
   have HB3:=mkHid (bt HBD.out bw3)
   clear bw3 hHeld x0 x1 y0 y1
   refine hK.out _ _ ⟨fw3_0,fw3_1,fw3_2,fw3_3⟩ (fun hHeld=>?_)
   clear hK K
   (try simp only [Act.put])
   refine wpAnyH_ready (rs:=[5]) (by kernel_rfl) (by simp) (AllReadyH.cons rfl (fun K hK=>?_) AllReadyH.nil)
   go_simp
   refine (HRB.out w3).mono ?_
   rintro e w4 ⟨rfl,bw4⟩
   have fw4_0:w4.cell? ⟨w.heap.size,0,none⟩ = some (.int .i64 a1):=kc fw3_0 bw4
   have fw4_1:w4.cell? ⟨w.heap.size,1,none⟩ = some (.int .i64 a2):=kc fw3_1 bw4
   have fw4_2:w4.cell? ⟨w.heap.size + 1,0,none⟩ = some (.int .i64 b1):=kc fw3_2 bw4
   have fw4_3:w4.cell? ⟨w.heap.size + 1,1,none⟩ = some (.int .i64 b2):=kc fw3_3 bw4
   have HB4:=mkHid (bt HB3.out bw4)
   clear bw4 hHeld fw3_0 fw3_1 fw3_2 fw3_3
   refine hK.out _ _ ⟨fw4_0,fw4_1,fw4_2,fw4_3⟩ (fun hHeld=>?_)
   clear hK K
   (try simp only [Act.put])
   refine tkE 6 18 (.bool true) rfl rfl hHeld ?_
   (try simp only [List.set_cons_zero,List.set_cons_succ])
   refine tkE 7 19 (.bool true) rfl rfl hHeld ?_
   (try simp only [List.set_cons_zero,List.set_cons_succ])
   refine tkE 8 20 (.agg #[.int .i64 a1,.int .i64 a2]) rfl rfl hHeld ?_
   (try simp only [List.set_cons_zero,List.set_cons_succ])
   refine tkE 9 21 (.agg #[.int .i64 a1,.int .i64 a2]) rfl rfl hHeld ?_
   (try simp only [List.set_cons_zero,List.set_cons_succ])
   refine wpAnyH_ready (rs:=[10]) (by kernel_rfl) (by simp) (AllReadyH.cons rfl (fun K hK=>?_) AllReadyH.nil)
   go_simp
   refine (HAA.out w4).mono ?_
   rintro e w5 ⟨rfl,bw5⟩
   have fw5_0:w5.cell? ⟨w.heap.size,0,none⟩ = some (.int .i64 a1):=kc fw4_0 bw5
   have fw5_1:w5.cell? ⟨w.heap.size,1,none⟩ = some (.int .i64 a2):=kc fw4_1 bw5
   have fw5_2:w5.cell? ⟨w.heap.size + 1,0,none⟩ = some (.int .i64 b1):=kc fw4_2 bw5
   have fw5_3:w5.cell? ⟨w.heap.size + 1,1,none⟩ = some (.int .i64 b2):=kc fw4_3 bw5
   have HB5:=mkHid (bt HB4.out bw5)
   clear bw5 hHeld fw4_0 fw4_1 fw4_2 fw4_3
   refine hK.out _ _ ⟨fw5_0,fw5_1,fw5_2,fw5_3⟩ (fun hHeld=>?_)
   clear hK K
   (try simp only [Act.put])
   refine tkE 11 23 (.bool true) rfl rfl hHeld ?_
   (try simp only [List.set_cons_zero,List.set_cons_succ])
   refine tkE 12 24 (.bool true) rfl rfl hHeld ?_
   (try simp only [List.set_cons_zero,List.set_cons_succ])
   refine tkE 13 25 (.bool true) rfl rfl hHeld ?_
   (try simp only [List.set_cons_zero,List.set_cons_succ])
   refine tkE 14 26 (.agg #[.int .i64 a1,.int .i64 a2]) rfl rfl hHeld ?_
   (try simp only [List.set_cons_zero,List.set_cons_succ])
   refine tkE 15 27 (.agg #[.int .i64 b1,.int .i64 b2]) rfl rfl hHeld ?_
   (try simp only [List.set_cons_zero,List.set_cons_succ])
   refine tkE 16 28 (.bool false) rfl rfl hHeld ?_
   (try simp only [List.set_cons_zero,List.set_cons_succ])
   refine tkE 17 29 (.bool false) rfl rfl hHeld ?_
   (try simp only [List.set_cons_zero,List.set_cons_succ])
   refine tkE 18 30 (.agg #[.int .i64 a1,.int .i64 a2]) rfl rfl hHeld ?_
   (try simp only [List.set_cons_zero,List.set_cons_succ])
   refine tkE 19 31 (.agg #[.int .i64 b1,.int .i64 b2]) rfl rfl hHeld ?_
   (try simp only [List.set_cons_zero,List.set_cons_succ])
   refine tkE 21 33 (.agg #[.int .i64 b1,.int .i64 b2]) rfl rfl hHeld ?_
   (try simp only [List.set_cons_zero,List.set_cons_succ])
   refine tkE 22 34 (.agg #[.int .i64 a1,.int .i64 a2]) rfl rfl hHeld ?_
   (try simp only [List.set_cons_zero,List.set_cons_succ])
   refine wpAnyH_ready (rs:=[20]) (by kernel_rfl) (by simp) (AllReadyH.cons rfl (fun K hK=>?_) AllReadyH.nil)
   go_simp
   refine (HAB.out w5).mono ?_
   rintro e w6 ⟨rfl,bw6⟩
   have fw6_0:w6.cell? ⟨w.heap.size,0,none⟩ = some (.int .i64 a1):=kc fw5_0 bw6
   have fw6_1:w6.cell? ⟨w.heap.size,1,none⟩ = some (.int .i64 a2):=kc fw5_1 bw6
   have fw6_2:w6.cell? ⟨w.heap.size + 1,0,none⟩ = some (.int .i64 b1):=kc fw5_2 bw6
   have fw6_3:w6.cell? ⟨w.heap.size + 1,1,none⟩ = some (.int .i64 b2):=kc fw5_3 bw6
   have HB6:=mkHid (bt HB5.out bw6)
   clear bw6 hHeld fw5_0 fw5_1 fw5_2 fw5_3
   refine hK.out _ _ ⟨fw6_0,fw6_1,fw6_2,fw6_3⟩ (fun hHeld=>?_)
   clear hK K
   (try simp only [Act.put])
   refine wpAnyH_ready (rs:=[23]) (by kernel_rfl) (by simp) (AllReadyH.cons rfl (fun K hK=>?_) AllReadyH.nil)
   go_simp
   refine (HBA.out w6).mono ?_
   rintro e w7 ⟨rfl,bw7⟩
   have fw7_0:w7.cell? ⟨w.heap.size,0,none⟩ = some (.int .i64 a1):=kc fw6_0 bw7
   have fw7_1:w7.cell? ⟨w.heap.size,1,none⟩ = some (.int .i64 a2):=kc fw6_1 bw7
   have fw7_2:w7.cell? ⟨w.heap.size + 1,0,none⟩ = some (.int .i64 b1):=kc fw6_2 bw7
   have fw7_3:w7.cell? ⟨w.heap.size + 1,1,none⟩ = some (.int .i64 b2):=kc fw6_3 bw7
   have HB7:=mkHid (bt HB6.out bw7)
   clear bw7 hHeld fw6_0 fw6_1 fw6_2 fw6_3
   refine hK.out _ _ ⟨fw7_0,fw7_1,fw7_2,fw7_3⟩ (fun hHeld=>?_)
   clear hK K
   (try simp only [Act.put])
   refine tkE 24 36 (.bool true) rfl rfl hHeld ?_
   (try simp only [List.set_cons_zero,List.set_cons_succ])
   refine tkE 25 37 (.bool true) rfl rfl hHeld ?_
   (try simp only [List.set_cons_zero,List.set_cons_succ])
   refine tkE 26 38 (.bool true) rfl rfl hHeld ?_
   (try simp only [List.set_cons_zero,List.set_cons_succ])
   refine tkE 27 39 (.bool true) rfl rfl hHeld ?_
   (try simp only [List.set_cons_zero,List.set_cons_succ])
   refine tkE 28 40 (.int .i64 n) rfl rfl hHeld ?_
   (try simp only [List.set_cons_zero,List.set_cons_succ])
   refine tkE 29 41 (.bool true) rfl rfl hHeld ?_
   (try simp only [List.set_cons_zero,List.set_cons_succ])
   refine tkE 30 42 (.bool true) rfl rfl hHeld ?_
   (try simp only [List.set_cons_zero,List.set_cons_succ])
   refine tkE 31 43 (.int .i64 0) rfl rfl hHeld ?_
   (try simp only [List.set_cons_zero,List.set_cons_succ])
   refine tkE 32 44 (.bool true) rfl rfl hHeld ?_
   (try simp only [List.set_cons_zero,List.set_cons_succ])
   refine tkE 33 45 (.bool true) rfl rfl hHeld ?_
   (try simp only [List.set_cons_zero,List.set_cons_succ])
   refine tkE 34 46 (.bool true) rfl rfl hHeld ?_
   (try simp only [List.set_cons_zero,List.set_cons_succ])
   refine takeD 35 47 (undef) rfl rfl (by kernel_rfl) (by kernel_rfl) (by kernel_rfl) (fun _ _ _ h=>h) (Or.inr ⟨by kernel_rfl,rfl⟩) hHeld ?_
   (try simp only [List.set_cons_zero,List.set_cons_succ])
   refine takeD 36 48 (undef) rfl rfl (by kernel_rfl) (by kernel_rfl) (by kernel_rfl) (fun _ _ _ h=>h) (Or.inr ⟨by kernel_rfl,rfl⟩) hHeld ?_
   (try simp only [List.set_cons_zero,List.set_cons_succ])
   refine takeD 37 49 (undef) rfl rfl (by kernel_rfl) (by kernel_rfl) (by kernel_rfl) (fun _ _ _ h=>h) (Or.inr ⟨by kernel_rfl,rfl⟩) hHeld ?_
   (try simp only [List.set_cons_zero,List.set_cons_succ])
   refine takeD 38 50 (undef) rfl rfl (by kernel_rfl) (by kernel_rfl) (by kernel_rfl) (fun _ _ _ h=>h) (Or.inr ⟨by kernel_rfl,rfl⟩) hHeld ?_
   (try simp only [List.set_cons_zero,List.set_cons_succ])
   refine takeD 39 51 (undef) rfl rfl (by kernel_rfl) (by kernel_rfl) (by kernel_rfl) (fun _ _ _ h=>h) (Or.inr ⟨by kernel_rfl,rfl⟩) hHeld ?_
   (try simp only [List.set_cons_zero,List.set_cons_succ])
   refine takeD 40 52 (undef) rfl rfl (by kernel_rfl) (by kernel_rfl) (by kernel_rfl) (fun _ _ _ h=>h) (Or.inr ⟨by kernel_rfl,rfl⟩) hHeld ?_
   (try simp only [List.set_cons_zero,List.set_cons_succ])
   refine takeD 41 53 (undef) rfl rfl (by kernel_rfl) (by kernel_rfl) (by kernel_rfl) (fun _ _ _ h=>h) (Or.inr ⟨by kernel_rfl,rfl⟩) hHeld ?_
   (try simp only [List.set_cons_zero,List.set_cons_succ])
   refine takeD 42 54 (undef) rfl rfl (by kernel_rfl) (by kernel_rfl) (by kernel_rfl) (fun _ _ _ h=>h) (Or.inr ⟨by kernel_rfl,rfl⟩) hHeld ?_
   (try simp only [List.set_cons_zero,List.set_cons_succ])
   refine takeD 43 55 (undef) rfl rfl (by kernel_rfl) (by kernel_rfl) (by kernel_rfl) (fun _ _ _ h=>h) (Or.inr ⟨by kernel_rfl,rfl⟩) hHeld ?_
   (try simp only [List.set_cons_zero,List.set_cons_succ])
   refine takeD 44 56 (undef) rfl rfl (by kernel_rfl) (by kernel_rfl) (by kernel_rfl) (fun _ _ _ h=>h) (Or.inr ⟨by kernel_rfl,rfl⟩) hHeld ?_
   (try simp only [List.set_cons_zero,List.set_cons_succ])
   refine takeD 45 57 (undef) rfl rfl (by kernel_rfl) (by kernel_rfl) (by kernel_rfl) (fun _ _ _ h=>h) (Or.inr ⟨by kernel_rfl,rfl⟩) hHeld ?_
   (try simp only [List.set_cons_zero,List.set_cons_succ])
   refine takeD 46 58 (undef) rfl rfl (by kernel_rfl) (by kernel_rfl) (by kernel_rfl) (fun _ _ _ h=>h) (Or.inr ⟨by kernel_rfl,rfl⟩) hHeld ?_
   (try simp only [List.set_cons_zero,List.set_cons_succ])
   refine takeD 47 59 (undef) rfl rfl (by kernel_rfl) (by kernel_rfl) (by kernel_rfl) (fun _ _ _ h=>h) (Or.inr ⟨by kernel_rfl,rfl⟩) hHeld ?_
   (try simp only [List.set_cons_zero,List.set_cons_succ])
   refine takeD 48 60 (undef) rfl rfl (by kernel_rfl) (by kernel_rfl) (by kernel_rfl) (fun _ _ _ h=>h) (Or.inr ⟨by kernel_rfl,rfl⟩) hHeld ?_
   (try simp only [List.set_cons_zero,List.set_cons_succ])
   refine takeD 49 61 (undef) rfl rfl (by kernel_rfl) (by kernel_rfl) (by kernel_rfl) (fun _ _ _ h=>h) (Or.inr ⟨by kernel_rfl,rfl⟩) hHeld ?_
   (try simp only [List.set_cons_zero,List.set_cons_succ])
   refine takeD 50 62 (undef) rfl rfl (by kernel_rfl) (by kernel_rfl) (by kernel_rfl) (fun _ _ _ h=>h) (Or.inr ⟨by kernel_rfl,rfl⟩) hHeld ?_
   (try simp only [List.set_cons_zero,List.set_cons_succ])
   refine takeD 51 63 (undef) rfl rfl (by kernel_rfl) (by kernel_rfl) (by kernel_rfl) (fun _ _ _ h=>h) (Or.inr ⟨by kernel_rfl,rfl⟩) hHeld ?_
   (try simp only [List.set_cons_zero,List.set_cons_succ])
   refine takeD 52 64 (undef) rfl rfl (by kernel_rfl) (by kernel_rfl) (by kernel_rfl) (fun _ _ _ h=>h) (Or.inr ⟨by kernel_rfl,rfl⟩) hHeld ?_
   (try simp only [List.set_cons_zero,List.set_cons_succ])
   refine tkE 53 65 (.bool true) rfl rfl hHeld ?_
   (try simp only [List.set_cons_zero,List.set_cons_succ])
   refine tkE 54 66 (.bool true) rfl rfl hHeld ?_
   (try simp only [List.set_cons_zero,List.set_cons_succ])
   refine tkE 55 6 (.bool true) rfl rfl hHeld ?_
   (try simp only [List.set_cons_zero,List.set_cons_succ])
   refine wpAnyH_done (by kernel_rfl) ?_ _
   go_wp2
   go_ret
   exact ⟨rfl,HB7.out⟩
  ·skip
   have ew1:IntKind.i64.wrap (n - q) = n - q:=vfit (by omega) (by omega)
   have ew2:IntKind.i64.wrap (q - 1) = q - 1:=vfit (by omega) (by omega)
   have ew3:IntKind.i64.wrap (n - (q - 1)) = n - (q - 1):=vfit (by omega) (by omega)
   go_enter Tryz.func4,Tryz.ntmps4
   go_wp2_with (first
    |(go_at_call 8;(refine (HAL.out _ (ba (ba (Below.refl _ w) (oB (a1,a2))) (oB (b1,b2)))).mono ?_);rintro e w1 ⟨rfl,b1x⟩;have HB1:=mkHid (bt (ba (ba (Below.refl _ w) (oB (a1,a2))) (oB (b1,b2))) b1x);have HX1:=mkHid (And.intro ((b1x.block w.heap.size (by simp;omega)).trans ((heap_alloc_old _ _ (by simp)).trans (heap_alloc_new w (oB (a1,a2))))) ((b1x.block (w.heap.size + 1) (by simp)).trans (two_of_two w (oB (a1,a2)) (oB (b1,b2)))));clear b1x)
    |(go_at_call 13;(refine (HHF.out _).mono ?_);rintro e w2 ⟨rfl,hw⟩;obtain rfl:=hw))
   obtain ⟨x0,x1⟩:=two_cells HX1.out.1
   obtain ⟨y0,y1⟩:=two_cells HX1.out.2
   clear HX1
   have HBD:=mkHid HB1.out.drew
   refine wp_region_held_drew (S:=fun w'=>w'.cell? ⟨w.heap.size,0,none⟩ = some (.int .i64 a1) ∧ w'.cell? ⟨w.heap.size,1,none⟩ = some (.int .i64 a2) ∧ w'.cell? ⟨w.heap.size + 1,0,none⟩ = some (.int .i64 b1) ∧ w'.cell? ⟨w.heap.size + 1,1,none⟩ = some (.int .i64 b2)) (by kernel_rfl) ⟨x0,x1,y0,y1⟩ (fun hHeld=>?_)
   refine tkE 0 12 (.agg #[.int .i64 a1,.int .i64 a2]) rfl rfl hHeld ?_
   (try simp only [List.set_cons_zero,List.set_cons_succ])
   refine tkE 1 13 (.agg #[.int .i64 b1,.int .i64 b2]) rfl rfl hHeld ?_
   (try simp only [List.set_cons_zero,List.set_cons_succ])
   refine tkE 3 15 (.agg #[.int .i64 a1,.int .i64 a2]) rfl rfl hHeld ?_
   (try simp only [List.set_cons_zero,List.set_cons_succ])
   refine tkE 4 16 (.agg #[.int .i64 b1,.int .i64 b2]) rfl rfl hHeld ?_
   (try simp only [List.set_cons_zero,List.set_cons_succ])
   refine wpAnyH_ready (rs:=[2]) (by kernel_rfl) (by simp) (AllReadyH.cons rfl (fun K hK=>?_) AllReadyH.nil)
   go_simp
   refine (HAB.out w2.drew).mono ?_
   rintro e w3 ⟨rfl,bw3⟩
   have fw3_0:w3.cell? ⟨w.heap.size,0,none⟩ = some (.int .i64 a1):=kc (show w2.drew.cell? _ = _ from x0) bw3
   have fw3_1:w3.cell? ⟨w.heap.size,1,none⟩ = some (.int .i64 a2):=kc (show w2.drew.cell? _ = _ from x1) bw3
   have fw3_2:w3.cell? ⟨w.heap.size + 1,0,none⟩ = some (.int .i64 b1):=kc (show w2.drew.cell? _ = _ from y0) bw3
   have fw3_3:w3.cell? ⟨w.heap.size + 1,1,none⟩ = some (.int .i64 b2):=kc (show w2.drew.cell? _ = _ from y1) bw3
   have HB3:=mkHid (bt HBD.out bw3)
   clear bw3 hHeld x0 x1 y0 y1
   refine hK.out _ _ ⟨fw3_0,fw3_1,fw3_2,fw3_3⟩ (fun hHeld=>?_)
   clear hK K
   (try simp only [Act.put])
   refine wpAnyH_ready (rs:=[5]) (by kernel_rfl) (by simp) (AllReadyH.cons rfl (fun K hK=>?_) AllReadyH.nil)
   go_simp
   refine (HRB.out w3).mono ?_
   rintro e w4 ⟨rfl,bw4⟩
   have fw4_0:w4.cell? ⟨w.heap.size,0,none⟩ = some (.int .i64 a1):=kc fw3_0 bw4
   have fw4_1:w4.cell? ⟨w.heap.size,1,none⟩ = some (.int .i64 a2):=kc fw3_1 bw4
   have fw4_2:w4.cell? ⟨w.heap.size + 1,0,none⟩ = some (.int .i64 b1):=kc fw3_2 bw4
   have fw4_3:w4.cell? ⟨w.heap.size + 1,1,none⟩ = some (.int .i64 b2):=kc fw3_3 bw4
   have HB4:=mkHid (bt HB3.out bw4)
   clear bw4 hHeld fw3_0 fw3_1 fw3_2 fw3_3
   refine hK.out _ _ ⟨fw4_0,fw4_1,fw4_2,fw4_3⟩ (fun hHeld=>?_)
   clear hK K
   (try simp only [Act.put])
   refine tkE 6 18 (.bool true) rfl rfl hHeld ?_
   (try simp only [List.set_cons_zero,List.set_cons_succ])
   refine tkE 7 19 (.bool true) rfl rfl hHeld ?_
   (try simp only [List.set_cons_zero,List.set_cons_succ])
   refine tkE 8 20 (.agg #[.int .i64 a1,.int .i64 a2]) rfl rfl hHeld ?_
   (try simp only [List.set_cons_zero,List.set_cons_succ])
   refine tkE 9 21 (.agg #[.int .i64 a1,.int .i64 a2]) rfl rfl hHeld ?_
   (try simp only [List.set_cons_zero,List.set_cons_succ])
   refine wpAnyH_ready (rs:=[10]) (by kernel_rfl) (by simp) (AllReadyH.cons rfl (fun K hK=>?_) AllReadyH.nil)
   go_simp
   refine (HAA.out w4).mono ?_
   rintro e w5 ⟨rfl,bw5⟩
   have fw5_0:w5.cell? ⟨w.heap.size,0,none⟩ = some (.int .i64 a1):=kc fw4_0 bw5
   have fw5_1:w5.cell? ⟨w.heap.size,1,none⟩ = some (.int .i64 a2):=kc fw4_1 bw5
   have fw5_2:w5.cell? ⟨w.heap.size + 1,0,none⟩ = some (.int .i64 b1):=kc fw4_2 bw5
   have fw5_3:w5.cell? ⟨w.heap.size + 1,1,none⟩ = some (.int .i64 b2):=kc fw4_3 bw5
   have HB5:=mkHid (bt HB4.out bw5)
   clear bw5 hHeld fw4_0 fw4_1 fw4_2 fw4_3
   refine hK.out _ _ ⟨fw5_0,fw5_1,fw5_2,fw5_3⟩ (fun hHeld=>?_)
   clear hK K
   (try simp only [Act.put])
   refine tkE 11 23 (.bool true) rfl rfl hHeld ?_
   (try simp only [List.set_cons_zero,List.set_cons_succ])
   refine tkE 12 24 (.bool true) rfl rfl hHeld ?_
   (try simp only [List.set_cons_zero,List.set_cons_succ])
   refine tkE 13 25 (.bool true) rfl rfl hHeld ?_
   (try simp only [List.set_cons_zero,List.set_cons_succ])
   refine tkE 14 26 (.agg #[.int .i64 a1,.int .i64 a2]) rfl rfl hHeld ?_
   (try simp only [List.set_cons_zero,List.set_cons_succ])
   refine tkE 15 27 (.agg #[.int .i64 b1,.int .i64 b2]) rfl rfl hHeld ?_
   (try simp only [List.set_cons_zero,List.set_cons_succ])
   refine tkE 16 28 (.bool false) rfl rfl hHeld ?_
   (try simp only [List.set_cons_zero,List.set_cons_succ])
   refine tkE 17 29 (.bool false) rfl rfl hHeld ?_
   (try simp only [List.set_cons_zero,List.set_cons_succ])
   refine tkE 18 30 (.agg #[.int .i64 a1,.int .i64 a2]) rfl rfl hHeld ?_
   (try simp only [List.set_cons_zero,List.set_cons_succ])
   refine tkE 19 31 (.agg #[.int .i64 b1,.int .i64 b2]) rfl rfl hHeld ?_
   (try simp only [List.set_cons_zero,List.set_cons_succ])
   refine tkE 21 33 (.agg #[.int .i64 b1,.int .i64 b2]) rfl rfl hHeld ?_
   (try simp only [List.set_cons_zero,List.set_cons_succ])
   refine tkE 22 34 (.agg #[.int .i64 a1,.int .i64 a2]) rfl rfl hHeld ?_
   (try simp only [List.set_cons_zero,List.set_cons_succ])
   refine wpAnyH_ready (rs:=[20]) (by kernel_rfl) (by simp) (AllReadyH.cons rfl (fun K hK=>?_) AllReadyH.nil)
   go_simp
   refine (HAB.out w5).mono ?_
   rintro e w6 ⟨rfl,bw6⟩
   have fw6_0:w6.cell? ⟨w.heap.size,0,none⟩ = some (.int .i64 a1):=kc fw5_0 bw6
   have fw6_1:w6.cell? ⟨w.heap.size,1,none⟩ = some (.int .i64 a2):=kc fw5_1 bw6
   have fw6_2:w6.cell? ⟨w.heap.size + 1,0,none⟩ = some (.int .i64 b1):=kc fw5_2 bw6
   have fw6_3:w6.cell? ⟨w.heap.size + 1,1,none⟩ = some (.int .i64 b2):=kc fw5_3 bw6
   have HB6:=mkHid (bt HB5.out bw6)
   clear bw6 hHeld fw5_0 fw5_1 fw5_2 fw5_3
   refine hK.out _ _ ⟨fw6_0,fw6_1,fw6_2,fw6_3⟩ (fun hHeld=>?_)
   clear hK K
   (try simp only [Act.put])
   refine wpAnyH_ready (rs:=[23]) (by kernel_rfl) (by simp) (AllReadyH.cons rfl (fun K hK=>?_) AllReadyH.nil)
   go_simp
   refine (HBA.out w6).mono ?_
   rintro e w7 ⟨rfl,bw7⟩
   have fw7_0:w7.cell? ⟨w.heap.size,0,none⟩ = some (.int .i64 a1):=kc fw6_0 bw7
   have fw7_1:w7.cell? ⟨w.heap.size,1,none⟩ = some (.int .i64 a2):=kc fw6_1 bw7
   have fw7_2:w7.cell? ⟨w.heap.size + 1,0,none⟩ = some (.int .i64 b1):=kc fw6_2 bw7
   have fw7_3:w7.cell? ⟨w.heap.size + 1,1,none⟩ = some (.int .i64 b2):=kc fw6_3 bw7
   have HB7:=mkHid (bt HB6.out bw7)
   clear bw7 hHeld fw6_0 fw6_1 fw6_2 fw6_3
   refine hK.out _ _ ⟨fw7_0,fw7_1,fw7_2,fw7_3⟩ (fun hHeld=>?_)
   clear hK K
   (try simp only [Act.put])
   refine tkE 24 36 (.bool true) rfl rfl hHeld ?_
   (try simp only [List.set_cons_zero,List.set_cons_succ])
   refine tkE 25 37 (.bool true) rfl rfl hHeld ?_
   (try simp only [List.set_cons_zero,List.set_cons_succ])
   refine tkE 26 38 (.bool true) rfl rfl hHeld ?_
   (try simp only [List.set_cons_zero,List.set_cons_succ])
   refine tkE 27 39 (.bool true) rfl rfl hHeld ?_
   (try simp only [List.set_cons_zero,List.set_cons_succ])
   refine tkE 28 40 (.int .i64 n) rfl rfl hHeld ?_
   (try simp only [List.set_cons_zero,List.set_cons_succ])
   refine tkE 29 41 (.bool false) rfl rfl hHeld ?_
   (try simp only [List.set_cons_zero,List.set_cons_succ])
   refine tkE 30 42 (.bool false) rfl rfl hHeld ?_
   (try simp only [List.set_cons_zero,List.set_cons_succ])
   refine takeD 31 43 (undef) rfl rfl (by kernel_rfl) (by kernel_rfl) (by kernel_rfl) (fun _ _ _ h=>h) (Or.inr ⟨by kernel_rfl,rfl⟩) hHeld ?_
   (try simp only [List.set_cons_zero,List.set_cons_succ])
   refine takeD 32 44 (undef) rfl rfl (by kernel_rfl) (by kernel_rfl) (by kernel_rfl) (fun _ _ _ h=>h) (Or.inr ⟨by kernel_rfl,rfl⟩) hHeld ?_
   (try simp only [List.set_cons_zero,List.set_cons_succ])
   refine tkE 33 45 (.bool false) rfl rfl hHeld ?_
   (try simp only [List.set_cons_zero,List.set_cons_succ])
   refine tkE 34 46 (.bool false) rfl rfl hHeld ?_
   (try simp only [List.set_cons_zero,List.set_cons_succ])
   refine tkE 35 47 (.int .i64 n) rfl rfl hHeld ?_
   (try simp only [List.set_cons_zero,List.set_cons_succ])
   refine tkE 36 48 (.bool true) rfl rfl hHeld ?_
   (try simp only [List.set_cons_zero,List.set_cons_succ])
   refine tkE 37 49 (.bool true) rfl rfl hHeld ?_
   (try simp only [List.set_cons_zero,List.set_cons_succ])
   refine tkE 38 50 (.int .i64 q) rfl rfl hHeld ?_
   (try simp only [List.set_cons_zero,List.set_cons_succ])
   refine tkE 39 51 (.int .i64 n) rfl rfl hHeld ?_
   (try simp only [List.set_cons_zero,List.set_cons_succ])
   refine tkE 40 52 (.int .i64 q) rfl rfl hHeld ?_
   (try simp only [List.set_cons_zero,List.set_cons_succ])
   refine tkE 41 53 (.int .i64 (n - q)) rfl rfl hHeld ?_
   (try simp only [List.set_cons_zero,List.set_cons_succ])
   refine tkE 42 54 (.bool true) rfl rfl hHeld ?_
   (try simp only [List.set_cons_zero,List.set_cons_succ])
   refine tkE 43 55 (.bool true) rfl rfl hHeld ?_
   (try simp only [List.set_cons_zero,List.set_cons_succ])
   refine tkE 44 56 (.bool true) rfl rfl hHeld ?_
   (try simp only [List.set_cons_zero,List.set_cons_succ])
   refine tkE 45 57 (.int .i64 q) rfl rfl hHeld ?_
   (try simp only [List.set_cons_zero,List.set_cons_succ])
   refine tkE 46 58 (.int .i64 (q - 1)) rfl rfl hHeld ?_
   (try simp only [List.set_cons_zero,List.set_cons_succ])
   refine tkE 47 59 (.int .i64 n) rfl rfl hHeld ?_
   (try simp only [List.set_cons_zero,List.set_cons_succ])
   refine tkE 48 60 (.int .i64 q) rfl rfl hHeld ?_
   (try simp only [List.set_cons_zero,List.set_cons_succ])
   refine tkE 49 61 (.int .i64 (q - 1)) rfl rfl hHeld ?_
   (try simp only [List.set_cons_zero,List.set_cons_succ])
   refine tkE 50 62 (.int .i64 (n - (q - 1))) rfl rfl hHeld ?_
   (try simp only [List.set_cons_zero,List.set_cons_succ])
   refine tkE 51 63 (.bool true) rfl rfl hHeld ?_
   (try simp only [List.set_cons_zero,List.set_cons_succ])
   refine tkE 52 64 (.bool true) rfl rfl hHeld ?_
   (try simp only [List.set_cons_zero,List.set_cons_succ])
   refine tkE 53 65 (.bool true) rfl rfl hHeld ?_
   (try simp only [List.set_cons_zero,List.set_cons_succ])
   refine tkE 54 66 (.bool true) rfl rfl hHeld ?_
   (try simp only [List.set_cons_zero,List.set_cons_succ])
   refine tkE 55 6 (.bool true) rfl rfl hHeld ?_
   (try simp only [List.set_cons_zero,List.set_cons_succ])
   refine wpAnyH_done (by kernel_rfl) ?_ _
   go_wp2
   go_ret
   exact ⟨rfl,HB7.out⟩
 ·rcases hqf with ⟨h1,rfl⟩ | ⟨h1,h2,h3,h4,h5⟩
  ·skip
   go_enter Tryz.func4,Tryz.ntmps4
   go_wp2_with (first
    |(go_at_call 8;(refine (HAL.out _ (ba (ba (Below.refl _ w) (oB (a1,a2))) (oB (b1,b2)))).mono ?_);rintro e w1 ⟨rfl,b1x⟩;have HB1:=mkHid (bt (ba (ba (Below.refl _ w) (oB (a1,a2))) (oB (b1,b2))) b1x);have HX1:=mkHid (And.intro ((b1x.block w.heap.size (by simp;omega)).trans ((heap_alloc_old _ _ (by simp)).trans (heap_alloc_new w (oB (a1,a2))))) ((b1x.block (w.heap.size + 1) (by simp)).trans (two_of_two w (oB (a1,a2)) (oB (b1,b2)))));clear b1x)
    |(go_at_call 13;(refine (HHF.out _).mono ?_);rintro e w2 ⟨rfl,hw⟩;obtain rfl:=hw))
   obtain ⟨x0,x1⟩:=two_cells HX1.out.1
   obtain ⟨y0,y1⟩:=two_cells HX1.out.2
   clear HX1
   have HBD:=mkHid HB1.out.drew
   refine wp_region_held_drew (S:=fun w'=>w'.cell? ⟨w.heap.size,0,none⟩ = some (.int .i64 a1) ∧ w'.cell? ⟨w.heap.size,1,none⟩ = some (.int .i64 a2) ∧ w'.cell? ⟨w.heap.size + 1,0,none⟩ = some (.int .i64 b1) ∧ w'.cell? ⟨w.heap.size + 1,1,none⟩ = some (.int .i64 b2)) (by kernel_rfl) ⟨x0,x1,y0,y1⟩ (fun hHeld=>?_)
   refine tkE 0 12 (.agg #[.int .i64 a1,.int .i64 a2]) rfl rfl hHeld ?_
   (try simp only [List.set_cons_zero,List.set_cons_succ])
   refine tkE 1 13 (.agg #[.int .i64 b1,.int .i64 b2]) rfl rfl hHeld ?_
   (try simp only [List.set_cons_zero,List.set_cons_succ])
   refine tkE 3 15 (.agg #[.int .i64 a1,.int .i64 a2]) rfl rfl hHeld ?_
   (try simp only [List.set_cons_zero,List.set_cons_succ])
   refine tkE 4 16 (.agg #[.int .i64 b1,.int .i64 b2]) rfl rfl hHeld ?_
   (try simp only [List.set_cons_zero,List.set_cons_succ])
   refine wpAnyH_ready (rs:=[2]) (by kernel_rfl) (by simp) (AllReadyH.cons rfl (fun K hK=>?_) AllReadyH.nil)
   go_simp
   refine (HAB.out w2.drew).mono ?_
   rintro e w3 ⟨rfl,bw3⟩
   have fw3_0:w3.cell? ⟨w.heap.size,0,none⟩ = some (.int .i64 a1):=kc (show w2.drew.cell? _ = _ from x0) bw3
   have fw3_1:w3.cell? ⟨w.heap.size,1,none⟩ = some (.int .i64 a2):=kc (show w2.drew.cell? _ = _ from x1) bw3
   have fw3_2:w3.cell? ⟨w.heap.size + 1,0,none⟩ = some (.int .i64 b1):=kc (show w2.drew.cell? _ = _ from y0) bw3
   have fw3_3:w3.cell? ⟨w.heap.size + 1,1,none⟩ = some (.int .i64 b2):=kc (show w2.drew.cell? _ = _ from y1) bw3
   have HB3:=mkHid (bt HBD.out bw3)
   clear bw3 hHeld x0 x1 y0 y1
   refine hK.out _ _ ⟨fw3_0,fw3_1,fw3_2,fw3_3⟩ (fun hHeld=>?_)
   clear hK K
   (try simp only [Act.put])
   refine wpAnyH_ready (rs:=[5]) (by kernel_rfl) (by simp) (AllReadyH.cons rfl (fun K hK=>?_) AllReadyH.nil)
   go_simp
   refine (HRB.out w3).mono ?_
   rintro e w4 ⟨rfl,bw4⟩
   have fw4_0:w4.cell? ⟨w.heap.size,0,none⟩ = some (.int .i64 a1):=kc fw3_0 bw4
   have fw4_1:w4.cell? ⟨w.heap.size,1,none⟩ = some (.int .i64 a2):=kc fw3_1 bw4
   have fw4_2:w4.cell? ⟨w.heap.size + 1,0,none⟩ = some (.int .i64 b1):=kc fw3_2 bw4
   have fw4_3:w4.cell? ⟨w.heap.size + 1,1,none⟩ = some (.int .i64 b2):=kc fw3_3 bw4
   have HB4:=mkHid (bt HB3.out bw4)
   clear bw4 hHeld fw3_0 fw3_1 fw3_2 fw3_3
   refine hK.out _ _ ⟨fw4_0,fw4_1,fw4_2,fw4_3⟩ (fun hHeld=>?_)
   clear hK K
   (try simp only [Act.put])
   refine tkE 6 18 (.bool true) rfl rfl hHeld ?_
   (try simp only [List.set_cons_zero,List.set_cons_succ])
   refine tkE 7 19 (.bool true) rfl rfl hHeld ?_
   (try simp only [List.set_cons_zero,List.set_cons_succ])
   refine tkE 8 20 (.agg #[.int .i64 a1,.int .i64 a2]) rfl rfl hHeld ?_
   (try simp only [List.set_cons_zero,List.set_cons_succ])
   refine tkE 9 21 (.agg #[.int .i64 a1,.int .i64 a2]) rfl rfl hHeld ?_
   (try simp only [List.set_cons_zero,List.set_cons_succ])
   refine wpAnyH_ready (rs:=[10]) (by kernel_rfl) (by simp) (AllReadyH.cons rfl (fun K hK=>?_) AllReadyH.nil)
   go_simp
   refine (HAA.out w4).mono ?_
   rintro e w5 ⟨rfl,bw5⟩
   have fw5_0:w5.cell? ⟨w.heap.size,0,none⟩ = some (.int .i64 a1):=kc fw4_0 bw5
   have fw5_1:w5.cell? ⟨w.heap.size,1,none⟩ = some (.int .i64 a2):=kc fw4_1 bw5
   have fw5_2:w5.cell? ⟨w.heap.size + 1,0,none⟩ = some (.int .i64 b1):=kc fw4_2 bw5
   have fw5_3:w5.cell? ⟨w.heap.size + 1,1,none⟩ = some (.int .i64 b2):=kc fw4_3 bw5
   have HB5:=mkHid (bt HB4.out bw5)
   clear bw5 hHeld fw4_0 fw4_1 fw4_2 fw4_3
   refine hK.out _ _ ⟨fw5_0,fw5_1,fw5_2,fw5_3⟩ (fun hHeld=>?_)
   clear hK K
   (try simp only [Act.put])
   refine tkE 11 23 (.bool true) rfl rfl hHeld ?_
   (try simp only [List.set_cons_zero,List.set_cons_succ])
   refine tkE 12 24 (.bool true) rfl rfl hHeld ?_
   (try simp only [List.set_cons_zero,List.set_cons_succ])
   refine tkE 13 25 (.bool true) rfl rfl hHeld ?_
   (try simp only [List.set_cons_zero,List.set_cons_succ])
   refine tkE 14 26 (.agg #[.int .i64 a1,.int .i64 a2]) rfl rfl hHeld ?_
   (try simp only [List.set_cons_zero,List.set_cons_succ])
   refine tkE 15 27 (.agg #[.int .i64 b1,.int .i64 b2]) rfl rfl hHeld ?_
   (try simp only [List.set_cons_zero,List.set_cons_succ])
   refine tkE 16 28 (.bool false) rfl rfl hHeld ?_
   (try simp only [List.set_cons_zero,List.set_cons_succ])
   refine tkE 17 29 (.bool false) rfl rfl hHeld ?_
   (try simp only [List.set_cons_zero,List.set_cons_succ])
   refine tkE 18 30 (.agg #[.int .i64 a1,.int .i64 a2]) rfl rfl hHeld ?_
   (try simp only [List.set_cons_zero,List.set_cons_succ])
   refine tkE 19 31 (.agg #[.int .i64 b1,.int .i64 b2]) rfl rfl hHeld ?_
   (try simp only [List.set_cons_zero,List.set_cons_succ])
   refine tkE 21 33 (.agg #[.int .i64 b1,.int .i64 b2]) rfl rfl hHeld ?_
   (try simp only [List.set_cons_zero,List.set_cons_succ])
   refine tkE 22 34 (.agg #[.int .i64 a1,.int .i64 a2]) rfl rfl hHeld ?_
   (try simp only [List.set_cons_zero,List.set_cons_succ])
   refine wpAnyH_ready (rs:=[20]) (by kernel_rfl) (by simp) (AllReadyH.cons rfl (fun K hK=>?_) AllReadyH.nil)
   go_simp
   refine (HAB.out w5).mono ?_
   rintro e w6 ⟨rfl,bw6⟩
   have fw6_0:w6.cell? ⟨w.heap.size,0,none⟩ = some (.int .i64 a1):=kc fw5_0 bw6
   have fw6_1:w6.cell? ⟨w.heap.size,1,none⟩ = some (.int .i64 a2):=kc fw5_1 bw6
   have fw6_2:w6.cell? ⟨w.heap.size + 1,0,none⟩ = some (.int .i64 b1):=kc fw5_2 bw6
   have fw6_3:w6.cell? ⟨w.heap.size + 1,1,none⟩ = some (.int .i64 b2):=kc fw5_3 bw6
   have HB6:=mkHid (bt HB5.out bw6)
   clear bw6 hHeld fw5_0 fw5_1 fw5_2 fw5_3
   refine hK.out _ _ ⟨fw6_0,fw6_1,fw6_2,fw6_3⟩ (fun hHeld=>?_)
   clear hK K
   (try simp only [Act.put])
   refine wpAnyH_ready (rs:=[23]) (by kernel_rfl) (by simp) (AllReadyH.cons rfl (fun K hK=>?_) AllReadyH.nil)
   go_simp
   refine (HBA.out w6).mono ?_
   rintro e w7 ⟨rfl,bw7⟩
   have fw7_0:w7.cell? ⟨w.heap.size,0,none⟩ = some (.int .i64 a1):=kc fw6_0 bw7
   have fw7_1:w7.cell? ⟨w.heap.size,1,none⟩ = some (.int .i64 a2):=kc fw6_1 bw7
   have fw7_2:w7.cell? ⟨w.heap.size + 1,0,none⟩ = some (.int .i64 b1):=kc fw6_2 bw7
   have fw7_3:w7.cell? ⟨w.heap.size + 1,1,none⟩ = some (.int .i64 b2):=kc fw6_3 bw7
   have HB7:=mkHid (bt HB6.out bw7)
   clear bw7 hHeld fw6_0 fw6_1 fw6_2 fw6_3
   refine hK.out _ _ ⟨fw7_0,fw7_1,fw7_2,fw7_3⟩ (fun hHeld=>?_)
   clear hK K
   (try simp only [Act.put])
   refine tkE 24 36 (.bool true) rfl rfl hHeld ?_
   (try simp only [List.set_cons_zero,List.set_cons_succ])
   refine tkE 25 37 (.bool true) rfl rfl hHeld ?_
   (try simp only [List.set_cons_zero,List.set_cons_succ])
   refine tkE 26 38 (.bool true) rfl rfl hHeld ?_
   (try simp only [List.set_cons_zero,List.set_cons_succ])
   refine tkE 27 39 (.bool true) rfl rfl hHeld ?_
   (try simp only [List.set_cons_zero,List.set_cons_succ])
   refine tkE 28 40 (.int .i64 n) rfl rfl hHeld ?_
   (try simp only [List.set_cons_zero,List.set_cons_succ])
   refine tkE 29 41 (.bool true) rfl rfl hHeld ?_
   (try simp only [List.set_cons_zero,List.set_cons_succ])
   refine tkE 30 42 (.bool true) rfl rfl hHeld ?_
   (try simp only [List.set_cons_zero,List.set_cons_succ])
   refine tkE 31 43 (.int .i64 0) rfl rfl hHeld ?_
   (try simp only [List.set_cons_zero,List.set_cons_succ])
   refine tkE 32 44 (.bool true) rfl rfl hHeld ?_
   (try simp only [List.set_cons_zero,List.set_cons_succ])
   refine tkE 33 45 (.bool true) rfl rfl hHeld ?_
   (try simp only [List.set_cons_zero,List.set_cons_succ])
   refine tkE 34 46 (.bool true) rfl rfl hHeld ?_
   (try simp only [List.set_cons_zero,List.set_cons_succ])
   refine takeD 35 47 (undef) rfl rfl (by kernel_rfl) (by kernel_rfl) (by kernel_rfl) (fun _ _ _ h=>h) (Or.inr ⟨by kernel_rfl,rfl⟩) hHeld ?_
   (try simp only [List.set_cons_zero,List.set_cons_succ])
   refine takeD 36 48 (undef) rfl rfl (by kernel_rfl) (by kernel_rfl) (by kernel_rfl) (fun _ _ _ h=>h) (Or.inr ⟨by kernel_rfl,rfl⟩) hHeld ?_
   (try simp only [List.set_cons_zero,List.set_cons_succ])
   refine takeD 37 49 (undef) rfl rfl (by kernel_rfl) (by kernel_rfl) (by kernel_rfl) (fun _ _ _ h=>h) (Or.inr ⟨by kernel_rfl,rfl⟩) hHeld ?_
   (try simp only [List.set_cons_zero,List.set_cons_succ])
   refine takeD 38 50 (undef) rfl rfl (by kernel_rfl) (by kernel_rfl) (by kernel_rfl) (fun _ _ _ h=>h) (Or.inr ⟨by kernel_rfl,rfl⟩) hHeld ?_
   (try simp only [List.set_cons_zero,List.set_cons_succ])
   refine takeD 39 51 (undef) rfl rfl (by kernel_rfl) (by kernel_rfl) (by kernel_rfl) (fun _ _ _ h=>h) (Or.inr ⟨by kernel_rfl,rfl⟩) hHeld ?_
   (try simp only [List.set_cons_zero,List.set_cons_succ])
   refine takeD 40 52 (undef) rfl rfl (by kernel_rfl) (by kernel_rfl) (by kernel_rfl) (fun _ _ _ h=>h) (Or.inr ⟨by kernel_rfl,rfl⟩) hHeld ?_
   (try simp only [List.set_cons_zero,List.set_cons_succ])
   refine takeD 41 53 (undef) rfl rfl (by kernel_rfl) (by kernel_rfl) (by kernel_rfl) (fun _ _ _ h=>h) (Or.inr ⟨by kernel_rfl,rfl⟩) hHeld ?_
   (try simp only [List.set_cons_zero,List.set_cons_succ])
   refine takeD 42 54 (undef) rfl rfl (by kernel_rfl) (by kernel_rfl) (by kernel_rfl) (fun _ _ _ h=>h) (Or.inr ⟨by kernel_rfl,rfl⟩) hHeld ?_
   (try simp only [List.set_cons_zero,List.set_cons_succ])
   refine takeD 43 55 (undef) rfl rfl (by kernel_rfl) (by kernel_rfl) (by kernel_rfl) (fun _ _ _ h=>h) (Or.inr ⟨by kernel_rfl,rfl⟩) hHeld ?_
   (try simp only [List.set_cons_zero,List.set_cons_succ])
   refine takeD 44 56 (undef) rfl rfl (by kernel_rfl) (by kernel_rfl) (by kernel_rfl) (fun _ _ _ h=>h) (Or.inr ⟨by kernel_rfl,rfl⟩) hHeld ?_
   (try simp only [List.set_cons_zero,List.set_cons_succ])
   refine takeD 45 57 (undef) rfl rfl (by kernel_rfl) (by kernel_rfl) (by kernel_rfl) (fun _ _ _ h=>h) (Or.inr ⟨by kernel_rfl,rfl⟩) hHeld ?_
   (try simp only [List.set_cons_zero,List.set_cons_succ])
   refine takeD 46 58 (undef) rfl rfl (by kernel_rfl) (by kernel_rfl) (by kernel_rfl) (fun _ _ _ h=>h) (Or.inr ⟨by kernel_rfl,rfl⟩) hHeld ?_
   (try simp only [List.set_cons_zero,List.set_cons_succ])
   refine takeD 47 59 (undef) rfl rfl (by kernel_rfl) (by kernel_rfl) (by kernel_rfl) (fun _ _ _ h=>h) (Or.inr ⟨by kernel_rfl,rfl⟩) hHeld ?_
   (try simp only [List.set_cons_zero,List.set_cons_succ])
   refine takeD 48 60 (undef) rfl rfl (by kernel_rfl) (by kernel_rfl) (by kernel_rfl) (fun _ _ _ h=>h) (Or.inr ⟨by kernel_rfl,rfl⟩) hHeld ?_
   (try simp only [List.set_cons_zero,List.set_cons_succ])
   refine takeD 49 61 (undef) rfl rfl (by kernel_rfl) (by kernel_rfl) (by kernel_rfl) (fun _ _ _ h=>h) (Or.inr ⟨by kernel_rfl,rfl⟩) hHeld ?_
   (try simp only [List.set_cons_zero,List.set_cons_succ])
   refine takeD 50 62 (undef) rfl rfl (by kernel_rfl) (by kernel_rfl) (by kernel_rfl) (fun _ _ _ h=>h) (Or.inr ⟨by kernel_rfl,rfl⟩) hHeld ?_
   (try simp only [List.set_cons_zero,List.set_cons_succ])
   refine takeD 51 63 (undef) rfl rfl (by kernel_rfl) (by kernel_rfl) (by kernel_rfl) (fun _ _ _ h=>h) (Or.inr ⟨by kernel_rfl,rfl⟩) hHeld ?_
   (try simp only [List.set_cons_zero,List.set_cons_succ])
   refine takeD 52 64 (undef) rfl rfl (by kernel_rfl) (by kernel_rfl) (by kernel_rfl) (fun _ _ _ h=>h) (Or.inr ⟨by kernel_rfl,rfl⟩) hHeld ?_
   (try simp only [List.set_cons_zero,List.set_cons_succ])
   refine tkE 53 65 (.bool true) rfl rfl hHeld ?_
   (try simp only [List.set_cons_zero,List.set_cons_succ])
   refine tkE 54 66 (.bool true) rfl rfl hHeld ?_
   (try simp only [List.set_cons_zero,List.set_cons_succ])
   refine tkE 55 6 (.bool true) rfl rfl hHeld ?_
   (try simp only [List.set_cons_zero,List.set_cons_succ])
   refine wpAnyH_done (by kernel_rfl) ?_ _
   go_wp2
   go_ret
   exact ⟨rfl,HB7.out⟩
  ·skip
   have ew1:IntKind.i64.wrap (n - q) = n - q:=vfit (by omega) (by omega)
   have ew2:IntKind.i64.wrap (q - 1) = q - 1:=vfit (by omega) (by omega)
   have ew3:IntKind.i64.wrap (n - (q - 1)) = n - (q - 1):=vfit (by omega) (by omega)
   go_enter Tryz.func4,Tryz.ntmps4
   go_wp2_with (first
    |(go_at_call 8;(refine (HAL.out _ (ba (ba (Below.refl _ w) (oB (a1,a2))) (oB (b1,b2)))).mono ?_);rintro e w1 ⟨rfl,b1x⟩;have HB1:=mkHid (bt (ba (ba (Below.refl _ w) (oB (a1,a2))) (oB (b1,b2))) b1x);have HX1:=mkHid (And.intro ((b1x.block w.heap.size (by simp;omega)).trans ((heap_alloc_old _ _ (by simp)).trans (heap_alloc_new w (oB (a1,a2))))) ((b1x.block (w.heap.size + 1) (by simp)).trans (two_of_two w (oB (a1,a2)) (oB (b1,b2)))));clear b1x)
    |(go_at_call 13;(refine (HHF.out _).mono ?_);rintro e w2 ⟨rfl,hw⟩;obtain rfl:=hw))
   obtain ⟨x0,x1⟩:=two_cells HX1.out.1
   obtain ⟨y0,y1⟩:=two_cells HX1.out.2
   clear HX1
   have HBD:=mkHid HB1.out.drew
   refine wp_region_held_drew (S:=fun w'=>w'.cell? ⟨w.heap.size,0,none⟩ = some (.int .i64 a1) ∧ w'.cell? ⟨w.heap.size,1,none⟩ = some (.int .i64 a2) ∧ w'.cell? ⟨w.heap.size + 1,0,none⟩ = some (.int .i64 b1) ∧ w'.cell? ⟨w.heap.size + 1,1,none⟩ = some (.int .i64 b2)) (by kernel_rfl) ⟨x0,x1,y0,y1⟩ (fun hHeld=>?_)
   refine tkE 0 12 (.agg #[.int .i64 a1,.int .i64 a2]) rfl rfl hHeld ?_
   (try simp only [List.set_cons_zero,List.set_cons_succ])
   refine tkE 1 13 (.agg #[.int .i64 b1,.int .i64 b2]) rfl rfl hHeld ?_
   (try simp only [List.set_cons_zero,List.set_cons_succ])
   refine tkE 3 15 (.agg #[.int .i64 a1,.int .i64 a2]) rfl rfl hHeld ?_
   (try simp only [List.set_cons_zero,List.set_cons_succ])
   refine tkE 4 16 (.agg #[.int .i64 b1,.int .i64 b2]) rfl rfl hHeld ?_
   (try simp only [List.set_cons_zero,List.set_cons_succ])
   refine wpAnyH_ready (rs:=[2]) (by kernel_rfl) (by simp) (AllReadyH.cons rfl (fun K hK=>?_) AllReadyH.nil)
   go_simp
   refine (HAB.out w2.drew).mono ?_
   rintro e w3 ⟨rfl,bw3⟩
   have fw3_0:w3.cell? ⟨w.heap.size,0,none⟩ = some (.int .i64 a1):=kc (show w2.drew.cell? _ = _ from x0) bw3
   have fw3_1:w3.cell? ⟨w.heap.size,1,none⟩ = some (.int .i64 a2):=kc (show w2.drew.cell? _ = _ from x1) bw3
   have fw3_2:w3.cell? ⟨w.heap.size + 1,0,none⟩ = some (.int .i64 b1):=kc (show w2.drew.cell? _ = _ from y0) bw3
   have fw3_3:w3.cell? ⟨w.heap.size + 1,1,none⟩ = some (.int .i64 b2):=kc (show w2.drew.cell? _ = _ from y1) bw3
   have HB3:=mkHid (bt HBD.out bw3)
   clear bw3 hHeld x0 x1 y0 y1
   refine hK.out _ _ ⟨fw3_0,fw3_1,fw3_2,fw3_3⟩ (fun hHeld=>?_)
   clear hK K
   (try simp only [Act.put])
   refine wpAnyH_ready (rs:=[5]) (by kernel_rfl) (by simp) (AllReadyH.cons rfl (fun K hK=>?_) AllReadyH.nil)
   go_simp
   refine (HRB.out w3).mono ?_
   rintro e w4 ⟨rfl,bw4⟩
   have fw4_0:w4.cell? ⟨w.heap.size,0,none⟩ = some (.int .i64 a1):=kc fw3_0 bw4
   have fw4_1:w4.cell? ⟨w.heap.size,1,none⟩ = some (.int .i64 a2):=kc fw3_1 bw4
   have fw4_2:w4.cell? ⟨w.heap.size + 1,0,none⟩ = some (.int .i64 b1):=kc fw3_2 bw4
   have fw4_3:w4.cell? ⟨w.heap.size + 1,1,none⟩ = some (.int .i64 b2):=kc fw3_3 bw4
   have HB4:=mkHid (bt HB3.out bw4)
   clear bw4 hHeld fw3_0 fw3_1 fw3_2 fw3_3
   refine hK.out _ _ ⟨fw4_0,fw4_1,fw4_2,fw4_3⟩ (fun hHeld=>?_)
   clear hK K
   (try simp only [Act.put])
   refine tkE 6 18 (.bool true) rfl rfl hHeld ?_
   (try simp only [List.set_cons_zero,List.set_cons_succ])
   refine tkE 7 19 (.bool true) rfl rfl hHeld ?_
   (try simp only [List.set_cons_zero,List.set_cons_succ])
   refine tkE 8 20 (.agg #[.int .i64 a1,.int .i64 a2]) rfl rfl hHeld ?_
   (try simp only [List.set_cons_zero,List.set_cons_succ])
   refine tkE 9 21 (.agg #[.int .i64 a1,.int .i64 a2]) rfl rfl hHeld ?_
   (try simp only [List.set_cons_zero,List.set_cons_succ])
   refine wpAnyH_ready (rs:=[10]) (by kernel_rfl) (by simp) (AllReadyH.cons rfl (fun K hK=>?_) AllReadyH.nil)
   go_simp
   refine (HAA.out w4).mono ?_
   rintro e w5 ⟨rfl,bw5⟩
   have fw5_0:w5.cell? ⟨w.heap.size,0,none⟩ = some (.int .i64 a1):=kc fw4_0 bw5
   have fw5_1:w5.cell? ⟨w.heap.size,1,none⟩ = some (.int .i64 a2):=kc fw4_1 bw5
   have fw5_2:w5.cell? ⟨w.heap.size + 1,0,none⟩ = some (.int .i64 b1):=kc fw4_2 bw5
   have fw5_3:w5.cell? ⟨w.heap.size + 1,1,none⟩ = some (.int .i64 b2):=kc fw4_3 bw5
   have HB5:=mkHid (bt HB4.out bw5)
   clear bw5 hHeld fw4_0 fw4_1 fw4_2 fw4_3
   refine hK.out _ _ ⟨fw5_0,fw5_1,fw5_2,fw5_3⟩ (fun hHeld=>?_)
   clear hK K
   (try simp only [Act.put])
   refine tkE 11 23 (.bool true) rfl rfl hHeld ?_
   (try simp only [List.set_cons_zero,List.set_cons_succ])
   refine tkE 12 24 (.bool true) rfl rfl hHeld ?_
   (try simp only [List.set_cons_zero,List.set_cons_succ])
   refine tkE 13 25 (.bool true) rfl rfl hHeld ?_
   (try simp only [List.set_cons_zero,List.set_cons_succ])
   refine tkE 14 26 (.agg #[.int .i64 a1,.int .i64 a2]) rfl rfl hHeld ?_
   (try simp only [List.set_cons_zero,List.set_cons_succ])
   refine tkE 15 27 (.agg #[.int .i64 b1,.int .i64 b2]) rfl rfl hHeld ?_
   (try simp only [List.set_cons_zero,List.set_cons_succ])
   refine tkE 16 28 (.bool false) rfl rfl hHeld ?_
   (try simp only [List.set_cons_zero,List.set_cons_succ])
   refine tkE 17 29 (.bool false) rfl rfl hHeld ?_
   (try simp only [List.set_cons_zero,List.set_cons_succ])
   refine tkE 18 30 (.agg #[.int .i64 a1,.int .i64 a2]) rfl rfl hHeld ?_
   (try simp only [List.set_cons_zero,List.set_cons_succ])
   refine tkE 19 31 (.agg #[.int .i64 b1,.int .i64 b2]) rfl rfl hHeld ?_
   (try simp only [List.set_cons_zero,List.set_cons_succ])
   refine tkE 21 33 (.agg #[.int .i64 b1,.int .i64 b2]) rfl rfl hHeld ?_
   (try simp only [List.set_cons_zero,List.set_cons_succ])
   refine tkE 22 34 (.agg #[.int .i64 a1,.int .i64 a2]) rfl rfl hHeld ?_
   (try simp only [List.set_cons_zero,List.set_cons_succ])
   refine wpAnyH_ready (rs:=[20]) (by kernel_rfl) (by simp) (AllReadyH.cons rfl (fun K hK=>?_) AllReadyH.nil)
   go_simp
   refine (HAB.out w5).mono ?_
   rintro e w6 ⟨rfl,bw6⟩
   have fw6_0:w6.cell? ⟨w.heap.size,0,none⟩ = some (.int .i64 a1):=kc fw5_0 bw6
   have fw6_1:w6.cell? ⟨w.heap.size,1,none⟩ = some (.int .i64 a2):=kc fw5_1 bw6
   have fw6_2:w6.cell? ⟨w.heap.size + 1,0,none⟩ = some (.int .i64 b1):=kc fw5_2 bw6
   have fw6_3:w6.cell? ⟨w.heap.size + 1,1,none⟩ = some (.int .i64 b2):=kc fw5_3 bw6
   have HB6:=mkHid (bt HB5.out bw6)
   clear bw6 hHeld fw5_0 fw5_1 fw5_2 fw5_3
   refine hK.out _ _ ⟨fw6_0,fw6_1,fw6_2,fw6_3⟩ (fun hHeld=>?_)
   clear hK K
   (try simp only [Act.put])
   refine wpAnyH_ready (rs:=[23]) (by kernel_rfl) (by simp) (AllReadyH.cons rfl (fun K hK=>?_) AllReadyH.nil)
   go_simp
   refine (HBA.out w6).mono ?_
   rintro e w7 ⟨rfl,bw7⟩
   have fw7_0:w7.cell? ⟨w.heap.size,0,none⟩ = some (.int .i64 a1):=kc fw6_0 bw7
   have fw7_1:w7.cell? ⟨w.heap.size,1,none⟩ = some (.int .i64 a2):=kc fw6_1 bw7
   have fw7_2:w7.cell? ⟨w.heap.size + 1,0,none⟩ = some (.int .i64 b1):=kc fw6_2 bw7
   have fw7_3:w7.cell? ⟨w.heap.size + 1,1,none⟩ = some (.int .i64 b2):=kc fw6_3 bw7
   have HB7:=mkHid (bt HB6.out bw7)
   clear bw7 hHeld fw6_0 fw6_1 fw6_2 fw6_3
   refine hK.out _ _ ⟨fw7_0,fw7_1,fw7_2,fw7_3⟩ (fun hHeld=>?_)
   clear hK K
   (try simp only [Act.put])
   refine tkE 24 36 (.bool true) rfl rfl hHeld ?_
   (try simp only [List.set_cons_zero,List.set_cons_succ])
   refine tkE 25 37 (.bool true) rfl rfl hHeld ?_
   (try simp only [List.set_cons_zero,List.set_cons_succ])
   refine tkE 26 38 (.bool true) rfl rfl hHeld ?_
   (try simp only [List.set_cons_zero,List.set_cons_succ])
   refine tkE 27 39 (.bool true) rfl rfl hHeld ?_
   (try simp only [List.set_cons_zero,List.set_cons_succ])
   refine tkE 28 40 (.int .i64 n) rfl rfl hHeld ?_
   (try simp only [List.set_cons_zero,List.set_cons_succ])
   refine tkE 29 41 (.bool false) rfl rfl hHeld ?_
   (try simp only [List.set_cons_zero,List.set_cons_succ])
   refine tkE 30 42 (.bool false) rfl rfl hHeld ?_
   (try simp only [List.set_cons_zero,List.set_cons_succ])
   refine takeD 31 43 (undef) rfl rfl (by kernel_rfl) (by kernel_rfl) (by kernel_rfl) (fun _ _ _ h=>h) (Or.inr ⟨by kernel_rfl,rfl⟩) hHeld ?_
   (try simp only [List.set_cons_zero,List.set_cons_succ])
   refine takeD 32 44 (undef) rfl rfl (by kernel_rfl) (by kernel_rfl) (by kernel_rfl) (fun _ _ _ h=>h) (Or.inr ⟨by kernel_rfl,rfl⟩) hHeld ?_
   (try simp only [List.set_cons_zero,List.set_cons_succ])
   refine tkE 33 45 (.bool false) rfl rfl hHeld ?_
   (try simp only [List.set_cons_zero,List.set_cons_succ])
   refine tkE 34 46 (.bool false) rfl rfl hHeld ?_
   (try simp only [List.set_cons_zero,List.set_cons_succ])
   refine tkE 35 47 (.int .i64 n) rfl rfl hHeld ?_
   (try simp only [List.set_cons_zero,List.set_cons_succ])
   refine tkE 36 48 (.bool true) rfl rfl hHeld ?_
   (try simp only [List.set_cons_zero,List.set_cons_succ])
   refine tkE 37 49 (.bool true) rfl rfl hHeld ?_
   (try simp only [List.set_cons_zero,List.set_cons_succ])
   refine tkE 38 50 (.int .i64 q) rfl rfl hHeld ?_
   (try simp only [List.set_cons_zero,List.set_cons_succ])
   refine tkE 39 51 (.int .i64 n) rfl rfl hHeld ?_
   (try simp only [List.set_cons_zero,List.set_cons_succ])
   refine tkE 40 52 (.int .i64 q) rfl rfl hHeld ?_
   (try simp only [List.set_cons_zero,List.set_cons_succ])
   refine tkE 41 53 (.int .i64 (n - q)) rfl rfl hHeld ?_
   (try simp only [List.set_cons_zero,List.set_cons_succ])
   refine tkE 42 54 (.bool true) rfl rfl hHeld ?_
   (try simp only [List.set_cons_zero,List.set_cons_succ])
   refine tkE 43 55 (.bool true) rfl rfl hHeld ?_
   (try simp only [List.set_cons_zero,List.set_cons_succ])
   refine tkE 44 56 (.bool true) rfl rfl hHeld ?_
   (try simp only [List.set_cons_zero,List.set_cons_succ])
   refine tkE 45 57 (.int .i64 q) rfl rfl hHeld ?_
   (try simp only [List.set_cons_zero,List.set_cons_succ])
   refine tkE 46 58 (.int .i64 (q - 1)) rfl rfl hHeld ?_
   (try simp only [List.set_cons_zero,List.set_cons_succ])
   refine tkE 47 59 (.int .i64 n) rfl rfl hHeld ?_
   (try simp only [List.set_cons_zero,List.set_cons_succ])
   refine tkE 48 60 (.int .i64 q) rfl rfl hHeld ?_
   (try simp only [List.set_cons_zero,List.set_cons_succ])
   refine tkE 49 61 (.int .i64 (q - 1)) rfl rfl hHeld ?_
   (try simp only [List.set_cons_zero,List.set_cons_succ])
   refine tkE 50 62 (.int .i64 (n - (q - 1))) rfl rfl hHeld ?_
   (try simp only [List.set_cons_zero,List.set_cons_succ])
   refine tkE 51 63 (.bool true) rfl rfl hHeld ?_
   (try simp only [List.set_cons_zero,List.set_cons_succ])
   refine tkE 52 64 (.bool true) rfl rfl hHeld ?_
   (try simp only [List.set_cons_zero,List.set_cons_succ])
   refine tkE 53 65 (.bool true) rfl rfl hHeld ?_
   (try simp only [List.set_cons_zero,List.set_cons_succ])
   refine tkE 54 66 (.bool true) rfl rfl hHeld ?_
   (try simp only [List.set_cons_zero,List.set_cons_succ])
   refine tkE 55 6 (.bool true) rfl rfl hHeld ?_
   (try simp only [List.set_cons_zero,List.set_cons_succ])
   refine wpAnyH_done (by kernel_rfl) ?_ _
   go_wp2
   go_ret
   exact ⟨rfl,HB7.out⟩
end Go.Proofs.YtihdkgekickohaaGreatDoor
