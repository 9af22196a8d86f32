import Derived.Test.YtihdkgekickohaaGreatDoorOref
import Derived.Test.YtihdkgekickohaaGreatDoorOrput
namespace Go.Proofs.YtihdkgekickohaaGreatDoor
open Go.ChangeShapes Go.WideShapes Go.ChangeAt Go.RowKit
set_option maxRecDepth 100000
attribute [local go_sem] World.cell?_alloc_some frozen_alloc_some
theorem Err.late {w w':World} {g:Nat} {s:List UInt8} {a:Addr} (h:Err w g s a) (hb:Below w.heap.size w w'):Err w' g s a:=by
 obtain ⟨h1,⟨t,h2,h3⟩,c,ty,h4⟩:=h
 exact ⟨(hb.cell (World.block_lt_of_cell? w _ h1)).trans h1,⟨t,(hb.cell (World.block_lt_of_cell? w _ h2)).trans h2,h3⟩,c,ty,(hb.block _ (Array.getElem?_eq_some_iff.1 h4).1).trans h4⟩
set_option maxHeartbeats 3200000 in
theorem put_no (w:World) (t:Ep) (ea:Addr) (h:EnW w t) (hf:¬ inF t.1) (he:w.cell? ⟨15,0,none⟩ = some (vErr ea)):Calls Tryz.prog 77 #[vP t] w fun r w'=>r = .returned (.tuple #[.slice none 0 0,vErr ea]) ∧ Below w.heap.size w w':=by
 obtain ⟨e,a,cap⟩:=t
 have HC:=mkHid (fun W (hW:Below w.heap.size w W)=>check_no W (e,a,cap) ea (h.below hW) hf (kc he hW))
 clear h hf he
 simp only [vP,vN,tv] at HC ⊢
 go_enter Tryz.func77,Tryz.ntmps77
 go_wp2_with (go_at_call 117;refine (HC.out _ (ba (Below.refl _ w) _)).mono ?_;rintro r w1 ⟨rfl,b1⟩;have HB1:=mkHid (bt (ba (Below.refl _ w) _) b1);clear b1)
 go_ret2
 exact ⟨rfl,HB1.out⟩
theorem refSame_yes (w:World) (t u:Ep) (ht:EnW w t) (hu:EnW w u) (h:t.1 = u.1):Calls Tryz.prog 48 #[vP t,vP u] w fun r w'=>r = .returned (.bool true) ∧ Below w.heap.size w w':=by
 obtain ⟨b,hb,hc⟩:=refSame_any w t u ht hu
 rwa [hb.mpr h] at hc
end Go.Proofs.YtihdkgekickohaaGreatDoor
