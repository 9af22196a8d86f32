import Derived.Test.YtpdehdomilnmeaaGreatDoorMath
import Derived.Laws.Bits64b
import Derived.Test.YtpdehdomilnmeaaGreatDoorTick
import Derived.OwnWalk
import Derived.WalkSmall
namespace Go.Proofs.YtpdehdomilnmeaaGreatDoor
def val:List Int→Int
 |[]=>0
 |d :: ds=>d+65536 * val ds
def Digs (ds:List Int):Prop:=∀ d ∈ ds,0≤d∧d≤65535
theorem Digs.snoc {ds:List Int} (h:Digs ds) {d:Int} (h0:0≤d) (h1:d≤65535):Digs (ds ++ [d]):=by
 intro x hx
 rcases List.mem_append.mp hx with h2 | h2
 ·exact h x h2
 ·simp at h2;subst h2;exact⟨h0,h1⟩
theorem Digs.at {ds:List Int} (h:Digs ds) (i:Nat):0≤ds.getD i 0∧ds.getD i 0≤65535:=by
 by_cases hi:i < ds.length
 ·have:ds.getD i 0 ∈ ds:=by simp [List.getD,hi]
  exact h _ this
 ·have:ds.getD i 0=0:=by simp [List.getD,List.getElem?_eq_none (by omega:ds.length≤i)]
  rw [this];omega
theorem Digs.take {ds:List Int} (h:Digs ds) (k:Nat):Digs (ds.take k):=fun d hd=>h d (List.mem_of_mem_take hd)
theorem Digs.drop {ds:List Int} (h:Digs ds) (k:Nat):Digs (ds.drop k):=fun d hd=>h d (List.mem_of_mem_drop hd)
end Go.Proofs.YtpdehdomilnmeaaGreatDoor
namespace Go.Proofs.YtpdehdomilnmeaaGreatDoor
open Go.ChangeShapes Go.WideShapes Go.ChangeAt Go.RowKit
set_option maxRecDepth 100000
def Num (w:World) (v:Value) (ds:List Int):Prop:=
 Digs ds∧∃ a cap,v=.slice a ds.length (ds.length+cap) ∧
  (0 < ds.length→∃ b off,a=some ⟨b,off,none⟩∧b < w.heap.size∧∀ k,k < ds.length→w.cell? ⟨b,off+k,none⟩=some (.int .u32 (ds.getD k 0)))
theorem Num.later {w w':World} {v:Value} {ds:List Int} (h:Num w v ds) (hb:Below w.heap.size w w'):Num w' v ds:=by
 obtain⟨hd,a,cap,rfl,hr⟩:=h
 refine⟨hd,a,cap,rfl,fun h0=>?_⟩
 obtain⟨b,off,rfl,hlt,hc⟩:=hr h0
 refine⟨b,off,rfl,Nat.lt_of_lt_of_le hlt hb.size,fun k hk=>?_⟩
 rw [hb.cell (p:=⟨b,off+k,none⟩) hlt]
 exact hc k hk
theorem Num.of_owns {w:World} {base:Nat} {e:TypeId} {v:Value} {ds:List Int} (hd:Digs ds) (h:w.ownsRow base e 1 v ds.length (ds.map (Value.int .u32))):Num w v ds:=by
 refine⟨hd, ?_⟩
 have hc:=@World.ownsRow.cells
 rcases h.2 with ⟨rfl,h0⟩ | ⟨g,cap,cur,rfl,hg,hh,hcap,hm,hs,ht⟩
 ·exact⟨none,0,by rw [h0],fun hp=>by omega⟩
 ·refine⟨some ⟨g,0,none⟩,cap - ds.length,by rw [Nat.add_sub_cancel' hcap],fun hp=>⟨g,0,rfl, ?_,fun k hk=>?_⟩⟩
  ·exact(h.lt g rfl).2
  ·have:=h.cells (g:=g) rfl k (.int .u32 (ds.getD k 0)) (by simp [List.getD,hk])
   have e:(⟨g,0,none⟩:Addr).add k=⟨g,0+k,none⟩:=by cases k <;> simp [Addr.add]
   rwa [e] at this
end Go.Proofs.YtpdehdomilnmeaaGreatDoor
