import Derived.Test.YtihdkgekickohaaGreatDoorOfX
import Derived.BigQuiet
namespace Go.Proofs.YtihdkgekickohaaGreatDoor
open Go.ChangeShapes Go.WideShapes Go.ChangeAt Go.RowKit
set_option maxRecDepth 100000
attribute [local go_sem] World.cell?_alloc_some frozen_alloc_some
def atP (c n:Int) (e:En):Prop:=e.cl = c ∧ e.nu = n
def PlIs (l:List En) (c n:Int) (k:Nat):Prop:=
 (k = 0 ∧ ∀ (i:Nat) (e:En),l[i]? = some e → ¬ atP c n e) ∨ (∃ (j:Nat) (e:En),k = j + 1 ∧ l[j]? = some e ∧ atP c n e ∧ ∀ (i:Nat) (x:En),i < j → l[i]? = some x → ¬ atP c n x)
theorem PlIs.le {l:List En} {c n:Int} {k:Nat} (h:PlIs l c n k):k ≤ l.length:=by
 rcases h with ⟨rfl,_⟩ | ⟨j,e,rfl,he,_⟩
 ·omega
 ·have:=(List.getElem?_eq_some_iff.mp he).1;omega
theorem fs1_at {ps:List Ep} {i:Nat} {t:Ep} (h:ps[i]? = some t):(ps.map (·.1))[i]? = some t.1:=by rw [List.getElem?_map,h];rfl
end Go.Proofs.YtihdkgekickohaaGreatDoor
