import Derived.Test.YtihdkgekickohaaGreatDoorRd
import Derived.Test.YtihdkgekickohaaGreatDoorBaseA
namespace Go.Proofs.YtihdkgekickohaaGreatDoor
open Go.ChangeShapes Go.WideShapes Go.ChangeAt Go.RowKit
set_option maxRecDepth 100000
theorem Tryz.info74:(Tryz.prog.info? 74).map (fun i=>(i.zero,i.size,i.bytes)) = some (some (.slice none 0 0),1,24):=by kernel_rfl
theorem Rd.kept0 {F:Nat → Prop} {w w':World} {v:Value} {bs:List Int} (h:Rd w v bs) (hk:Kept F w w') (hn:0 < bs.length → ∀ k,v.ownBlock = some k → ¬ F k):Rd w' v bs:=by
 obtain ⟨hB,a,cap,rfl,hc,h0,hr⟩:=h
 refine ⟨hB,a,cap,rfl,hc,h0,fun hp=>?_⟩
 obtain ⟨b,off,rfl,hlt,hcell⟩:=hr hp
 exact ⟨b,off,rfl,Nat.lt_of_lt_of_le hlt hk.size,fun k hk'=>hk.cell (hcell k hk') (hn hp b rfl)⟩
theorem Rd.one {w:World} {v:Value} {bs:List Int} (h:Rd w v bs):v.oneCell' = true:=by
 obtain ⟨hB,a,cap,rfl,_⟩:=h
 rfl
def RdAll (G:Nat → Prop) (w:World):List Value → List (List Int) → Prop
 |[],[]=>True
 |v :: vs,p :: ps=>(Rd w v p ∧ (0 < p.length → ∀ k,v.ownBlock = some k → G k)) ∧ RdAll G w vs ps
 |_,_=>False
theorem RdAll.len {G:Nat → Prop} {w:World} {vs:List Value} {ps:List (List Int)} (h:RdAll G w vs ps):vs.length = ps.length:=by
 induction vs generalizing ps with
 |nil=>cases ps with
  |nil=>rfl
  |cons p ps=>exact h.elim
 |cons v vs ih=>cases ps with
  |nil=>exact h.elim
  |cons p ps=>simp [ih h.2]
theorem RdAll.one {G:Nat → Prop} {w:World} {vs:List Value} {ps:List (List Int)} (h:RdAll G w vs ps):∀ u ∈ vs,u.oneCell' = true:=by
 induction vs generalizing ps with
 |nil=>simp
 |cons v vs ih=>cases ps with
  |nil=>exact h.elim
  |cons p ps=>
   intro u hu
   rcases List.mem_cons.mp hu with rfl | hu
   ·exact h.1.1.one
   ·exact ih h.2 u hu
theorem RdAll.kept {G F:Nat → Prop} {w w':World} {vs:List Value} {ps:List (List Int)} (h:RdAll G w vs ps) (hk:Kept F w w') (hn:∀ k,G k → ¬ F k):RdAll G w' vs ps:=by
 induction vs generalizing ps with
 |nil=>cases ps with
  |nil=>trivial
  |cons p ps=>exact h.elim
 |cons v vs ih=>cases ps with
  |nil=>exact h.elim
  |cons p ps=>exact ⟨⟨h.1.1.kept0 hk (fun hp k hk'=>hn k (h.1.2 hp k hk')),h.1.2⟩,ih h.2⟩
theorem RdAll.mono {G H:Nat → Prop} {w:World} {vs:List Value} {ps:List (List Int)} (h:RdAll G w vs ps) (hn:∀ k,G k → H k):RdAll H w vs ps:=by
 induction vs generalizing ps with
 |nil=>cases ps with
  |nil=>trivial
  |cons p ps=>exact h.elim
 |cons v vs ih=>cases ps with
  |nil=>exact h.elim
  |cons p ps=>exact ⟨⟨h.1.1,fun hp k hk=>hn k (h.1.2 hp k hk)⟩,ih h.2⟩
theorem RdAll.append {G:Nat → Prop} {w:World} {vs us:List Value} {ps qs:List (List Int)} (h:RdAll G w vs ps) (h2:RdAll G w us qs):RdAll G w (vs ++ us) (ps ++ qs):=by
 induction vs generalizing ps with
 |nil=>cases ps with
  |nil=>exact h2
  |cons p ps=>exact h.elim
 |cons v vs ih=>cases ps with
  |nil=>exact h.elim
  |cons p ps=>exact ⟨h.1,ih h.2⟩
theorem RdAll.at {G:Nat → Prop} {w:World} {vs:List Value} {ps:List (List Int)} (h:RdAll G w vs ps) (i:Nat) (hi:i < ps.length):∃ u,vs[i]? = some u ∧ Rd w u (ps.getD i []) ∧ (0 < (ps.getD i []).length → ∀ k,u.ownBlock = some k → G k):=by
 induction vs generalizing ps i with
 |nil=>cases ps with
  |nil=>simp at hi
  |cons p ps=>exact h.elim
 |cons v vs ih=>cases ps with
  |nil=>exact h.elim
  |cons p ps=>
   cases i with
   |zero=>exact ⟨v,by simp,by simpa using h.1.1,by simpa using h.1.2⟩
   |succ i=>
    obtain ⟨u,h1,h2,h3⟩:=ih h.2 i (by simpa using hi)
    exact ⟨u,by simpa using h1,by simpa using h2,by simpa using h3⟩
def Lst (G:Nat → Prop) (base:Nat) (w:World) (v:Value) (ps:List (List Int)):Prop:=
 ∃ vs,w.ownsRow base 74 1 v ps.length vs ∧ RdAll G w vs ps ∧ ∀ k,v.ownBlock = some k → ¬ G k
theorem own_keptV {F:Nat → Prop} {w w':World} {base:Nat} {e:TypeId} {v:Value} {n:Nat} {xs:List Value} (h:w.ownsRow base e 1 v n xs) (hk:Kept F w w') (hn:∀ k,v.ownBlock = some k → ¬ F k):w'.ownsRow base e 1 v n xs:=by
 refine ⟨h.1,h.2.imp id ?_⟩
 rintro ⟨g,cap,cur,rfl,hb,hg,rest⟩
 exact ⟨g,cap,cur,rfl,hb,by rw [hk.block g (Array.getElem?_eq_some_iff.1 hg).1 (hn g rfl)];exact hg,rest⟩
theorem Lst.kept {G F:Nat → Prop} {base:Nat} {w w':World} {v:Value} {ps:List (List Int)} (h:Lst G base w v ps) (hk:Kept F w w') (hG:∀ k,G k → ¬ F k) (hv:∀ k,v.ownBlock = some k → ¬ F k):Lst G base w' v ps:=by
 obtain ⟨vs,ho,hr,hd⟩:=h
 exact ⟨vs,own_keptV ho hk hv,hr.kept hk hG,hd⟩
theorem Lst.nil (G:Nat → Prop) (base:Nat) (w:World):Lst G base w (.slice none 0 0) []:=⟨[],World.ownsRow_nil _ _ _ _,trivial,fun k hk=>by simp [Value.ownBlock] at hk⟩
theorem src_oneV (w:World) (x:Value) (hx:x.oneCell' = true):Src Tryz.prog 1 76 (.slice (some ⟨w.heap.size,0,none⟩) 1 1) 1 [x] (w.alloc (.cells #[x] 74)):=by
 refine Src.ofSlice _ Tryz.underlying76 _ 1 1 _ rfl (fun j u hj=>?_) (fun u hu=>by simp at hu;subst hu;exact hx)
 match j,hj with
 |0,hj=>simp at hj;subst hj;simp [Addr.add]
end Go.Proofs.YtihdkgekickohaaGreatDoor
