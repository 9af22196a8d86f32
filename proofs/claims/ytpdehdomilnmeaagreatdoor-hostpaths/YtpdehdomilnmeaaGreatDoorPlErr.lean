import Derived.Test.YtpdehdomilnmeaaGreatDoorPlan5
namespace Go.Proofs.YtpdehdomilnmeaaGreatDoor
open Go.ChangeShapes Go.WideShapes Go.ChangeAt Go.RowKit
set_option maxRecDepth 100000
attribute [local go_sem] World.cell?_alloc_some frozen_alloc_some
theorem Err.lt {w:World} {g:Nat} {s:List UInt8} {a:Addr} (h:Err w g s a):a.block < w.heap.size:=by
 obtain⟨_,⟨t,h2,_⟩,_⟩:=h
 exact World.block_lt_of_cell? w _ h2
theorem Err.late {w w':World} {g:Nat} {s:List UInt8} {a:Addr} (h:Err w g s a) (hb:Below w.heap.size w w'):Err w' g s a:=by
 obtain⟨h1,⟨t,h2,h3⟩,c,ty,h4⟩:=h
 exact⟨(hb.cell (World.block_lt_of_cell? w _ h1)).trans h1,⟨t,(hb.cell (World.block_lt_of_cell? w _ h2)).trans h2,h3⟩,c,ty,(hb.block _ (Array.getElem?_eq_some_iff.1 h4).1).trans h4⟩
abbrev oS (s:Sv):Obj:=.cells #[.int .i64 s.1,.int .i64 s.2.1,.int .i64 s.2.2] 37
def S3 (w:World) (b:Nat) (s:Sv):Prop:=w.cell? ⟨b,0,none⟩=some (.int .i64 s.1)∧w.cell? ⟨b,1,none⟩=some (.int .i64 s.2.1)∧w.cell? ⟨b,2,none⟩=some (.int .i64 s.2.2)
theorem S3.new (w:World) (s:Sv):S3 (w.alloc (oS s)) w.heap.size s:=by
 refine⟨?_, ?_, ?_⟩ <;> simp [go_sem]
theorem S3.below {w w':World} {b:Nat} {s:Sv} (h:S3 w b s) (hb:Below w.heap.size w w'):S3 w' b s:=⟨kc h.1 hb,kc h.2.1 hb,kc h.2.2 hb⟩
theorem S3.alloc {w:World} {b:Nat} {s:Sv} (h:S3 w b s) (o:Obj):S3 (w.alloc o) b s:=h.below ((Below.refl _ _).alloc (Nat.le_refl _) _)
theorem P4.cells {w:World} {p:Nat} {A B C E:Int} (h:P4 w p A B C E):w.cell? ⟨p,0,none⟩=some (.int .u64 A)∧w.cell? ⟨p,1,none⟩=some (.int .u64 B)∧w.cell? ⟨p,2,none⟩=some (.int .u64 C)∧w.cell? ⟨p,3,none⟩=some (.int .u64 E):=h.1
end Go.Proofs.YtpdehdomilnmeaaGreatDoor
