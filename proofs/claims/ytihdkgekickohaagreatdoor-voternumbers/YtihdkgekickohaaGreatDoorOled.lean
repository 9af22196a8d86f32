import Derived.Test.YtihdkgekickohaaGreatDoorOgX
namespace Go.Proofs.YtihdkgekickohaaGreatDoor
open Go.ChangeShapes Go.WideShapes Go.ChangeAt Go.RowKit
set_option maxRecDepth 100000
attribute [local go_sem] World.cell?_alloc_some frozen_alloc_some
theorem ownN_kept {G:Nat → Prop} {w w':World} {b n0:Nat} {e:TypeId} {v:Value} {n:Nat} {xs:List Value} (h:w.ownsRow b e n0 v n xs) (hk:Kept G w w') (hn:∀ k,v.ownBlock = some k → ¬ G k):w'.ownsRow b e n0 v n xs:=by
 refine ⟨h.1,?_⟩
 rcases h.2 with h1 | ⟨g,cap,cur,rfl,hbg,hg,rest⟩
 ·exact .inl h1
 ·exact .inr ⟨g,cap,cur,rfl,hbg,by rw [hk.block g (by have:=(h.lt g rfl).2;exact this) (hn g rfl)];exact hg,rest⟩
structure Led (base:Nat) (w:World) (v:Value) (ps:List Ep):Prop where
 own:w.ownsRow base 69 10 v ps.length (ps.flatMap c10)
 tk:∀ t ∈ ps,w.ownsRow base 137 4 (tv t) t.1.ts.length (t.1.ts.flatMap c4)
 ne:∀ t ∈ ps,∀ k,(tv t).ownBlock = some k → v.ownBlock ≠ some k
theorem Led.kept {G:Nat → Prop} {base:Nat} {w w':World} {v:Value} {ps:List Ep} (h:Led base w v ps) (hk:Kept G w w') (hG:∀ k,G k → k < base ∨ w.heap.size ≤ k):Led base w' v ps:=
 ⟨ownN_kept h.own hk (fun k e g=>by have:=h.own.lt k e;have:=hG k g;omega),fun t ht=>ownN_kept (h.tk t ht) hk (fun k e g=>by have:=(h.tk t ht).lt k e;have:=hG k g;omega),h.ne⟩
theorem Led.below {base:Nat} {w w':World} {v:Value} {ps:List Ep} (h:Led base w v ps) (hb:Below w.heap.size w w'):Led base w' v ps:=h.kept (kept_of_below hb) (fun _ hk=>.inr hk)
theorem Led.push {base:Nat} {w w1:World} {v v1:Value} {ps:List Ep} {t:Ep} (h:Led base w v ps) (hown:w1.ownsRow base 69 10 v1 (ps.length + 1) (ps.flatMap c10 ++ c10 t)) (hg:w.grownBy w1 v.ownBlock) (hat:v1.ownBlock = v.ownBlock ∨ v1.ownBlock = some w.heap.size)
  (ht:w.ownsRow base 137 4 (tv t) t.1.ts.length (t.1.ts.flatMap c4)) (hne:∀ k,(tv t).ownBlock = some k → v.ownBlock ≠ some k):Led base w1 v1 (ps ++ [t]):=by
 have hk:=Kept.grown hg (F:=fun k=>v.ownBlock = some k) (fun k hk=>hk)
 have hne':∀ u:Ep,(∀ k,(tv u).ownBlock = some k → v.ownBlock ≠ some k) → w.ownsRow base 137 4 (tv u) u.1.ts.length (u.1.ts.flatMap c4) → ∀ k,(tv u).ownBlock = some k → v1.ownBlock ≠ some k:=by
  intro u hu ho k e e2
  rcases hat with a | a
  ·exact hu k e (a ▸ e2)
  ·rw [a] at e2;simp at e2;have:=(ho.lt k e).2;omega
 refine ⟨?_,fun u hu=>?_,fun u hu=>?_⟩
 ·rw [List.flatMap_append,List.length_append]
  simpa using hown
 ·rcases List.mem_append.mp hu with m | m
  ·exact ownN_kept (h.tk u m) hk (fun k e e2=>h.ne u m k e e2)
  ·simp at m;subst m;exact ownN_kept ht hk (fun k e e2=>hne k e e2)
 ·rcases List.mem_append.mp hu with m | m
  ·exact hne' u (h.ne u m) (h.tk u m)
  ·simp at m;subst m;exact hne' u hne ht
theorem Led.ens {base:Nat} {w:World} {v:Value} {ps:List Ep} (h:Led base w v ps) (hl:(ps.length:Int) ≤ 9223372036854775807) (ht:∀ t ∈ ps,(t.1.ts.length:Int) ≤ 9223372036854775807):Ens w v ps:=by
 obtain ⟨a,cap,e,he⟩:=ens_of_owns hl h.own (fun t hm=>by
  obtain ⟨a,c,e,hx⟩:=tks_of_owns (ht t hm) (h.tk t hm)
  simp only [tv,Value.slice.injEq] at e
  unfold EnW tv
  rw [e.1,e.2.2]
  exact hx)
 rw [e]
 exact he
theorem own_sh {w:World} {base n0:Nat} {e:TypeId} {v:Value} {n:Nat} {xs:List Value} (h:w.ownsRow base e n0 v n xs):∃ a c,v = .slice a n c ∧ n ≤ c:=by
 rcases h.2 with ⟨rfl,rfl⟩ | ⟨g,cap,cur,rfl,_,_,hn,_⟩
 ·exact ⟨none,0,rfl,Nat.le_refl _⟩
 ·exact ⟨_,cap,rfl,hn⟩
theorem src_entry (w:World) (t:Ep):Src Tryz.prog 10 40 (.slice (some ⟨w.heap.size,0,none⟩) 1 1) 1 (c10 t) (w.alloc (oE t.1 (tv t))):=by
 refine Src.ofSlice _ Tryz.underlying40 _ 1 1 _ rfl (fun j u hj=>?_) (fun u hu=>by simp only [c10,List.mem_cons,List.not_mem_nil,or_false] at hu;rcases hu with rfl | rfl | rfl | rfl | rfl | rfl | rfl | rfl | rfl | rfl <;> rfl)
 have hn:=heap_alloc_new w (oE t.1 (tv t))
 have hj10:j < 10:=(List.getElem?_eq_some_iff.mp hj).1
 rw [add_none]
 have:j = 0 ∨ j = 1 ∨ j = 2 ∨ j = 3 ∨ j = 4 ∨ j = 5 ∨ j = 6 ∨ j = 7 ∨ j = 8 ∨ j = 9:=by omega
 rcases this with rfl | rfl | rfl | rfl | rfl | rfl | rfl | rfl | rfl | rfl <;> simp only [c10,List.getElem?_cons_zero,List.getElem?_cons_succ,Option.some.injEq] at hj <;> subst hj <;> exact cell_of_block hn rfl
def small (t:Ep):Prop:=t.1.ts.length * 32 ≤ 140737488355328
theorem EnAt.ten {w:World} {b o:Nat} {t:Ep} (h:EnAt w b o t):w.cell? ⟨b,o,none⟩ = some (.int .i64 t.1.cl) ∧ w.cell? ⟨b,o + 1,none⟩ = some (.int .i64 t.1.nu) ∧ w.cell? ⟨b,o + 2,none⟩ = some (.int .i64 t.1.ki) ∧ w.cell? ⟨b,o + 3,none⟩ = some (.int .i64 t.1.id) ∧ w.cell? ⟨b,o + 4,none⟩ = some (.int .i64 t.1.sk) ∧ w.cell? ⟨b,o + 5,none⟩ = some (.int .i64 t.1.sq) ∧ w.cell? ⟨b,o + 6,none⟩ = some (.int .i64 t.1.st) ∧ w.cell? ⟨b,o + 7,none⟩ = some (.int .i64 t.1.po) ∧ w.cell? ⟨b,o + 8,none⟩ = some (tv t) ∧ w.cell? ⟨b,o + 9,none⟩ = some (.int .i64 t.1.tm):=⟨h.c0,h.c1,h.c2,h.c3,h.c4,h.c5,h.c6,h.c7,h.c8,h.c9⟩
end Go.Proofs.YtihdkgekickohaaGreatDoor
