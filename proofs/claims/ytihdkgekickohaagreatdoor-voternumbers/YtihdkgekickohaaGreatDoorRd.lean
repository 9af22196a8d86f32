import Derived.Test.YtihdkgekickohaaGreatDoorBaseA
import Derived.Test.YtihdkgekickohaaGreatDoorBaseM
import Derived.WalkKit
import Derived.WalkSmall
import Derived.ProofKit
namespace Go.Proofs.YtihdkgekickohaaGreatDoor
open Go.ChangeShapes Go.WideShapes Go.ChangeAt Go.RowKit
set_option maxRecDepth 100000
theorem Tryz.info5:(Tryz.prog.info? 5).map (fun i=>(i.zero,i.size,i.bytes)) = some (some (.int .u8 0),1,1):=by kernel_rfl
theorem mkHid {p:Prop} (h:p):Hid p:=h
theorem add_none (b off k:Nat):(⟨b,off,none⟩:Addr).add k = ⟨b,off + k,none⟩:=by cases k <;> simp [Addr.add]
def Rd (w:World) (v:Value) (bs:List Int):Prop:=
 Byts bs ∧ ∃ a cap,v = .slice a bs.length cap ∧ bs.length ≤ cap ∧ (a = none → cap = 0) ∧
  (0 < bs.length → ∃ b off,a = some ⟨b,off,none⟩ ∧ b < w.heap.size ∧ ∀ k,k < bs.length → w.cell? ⟨b,off + k,none⟩ = some (.int .u8 (bs.getD k 0)))
theorem Rd.kept {F:Nat → Prop} {w w':World} {v:Value} {bs:List Int} (h:Rd w v bs) (hk:Kept F w w') (hn:∀ k,v.ownBlock = some k → ¬ F k):Rd w' v bs:=by
 obtain ⟨hB,a,cap,rfl,hc,h0,hr⟩:=h
 refine ⟨hB,a,cap,rfl,hc,h0,fun hp=>?_⟩
 obtain ⟨b,off,rfl,hlt,hcell⟩:=hr hp
 exact ⟨b,off,rfl,Nat.lt_of_lt_of_le hlt hk.size,fun k hk'=>hk.cell (hcell k hk') (hn b rfl)⟩
theorem Rd.later {w w':World} {v:Value} {bs:List Int} (h:Rd w v bs) (hb:Below w.heap.size w w'):Rd w' v bs:=by
 obtain ⟨hB,a,cap,rfl,hc,h0,hr⟩:=h
 refine ⟨hB,a,cap,rfl,hc,h0,fun hp=>?_⟩
 obtain ⟨b,off,rfl,hlt,hcell⟩:=hr hp
 exact ⟨b,off,rfl,Nat.lt_of_lt_of_le hlt hb.size,fun k hk'=>(hb.cell (p:=⟨b,off + k,none⟩) hlt).trans (hcell k hk')⟩
theorem Rd.alloc {w:World} {v:Value} {bs:List Int} (h:Rd w v bs) (o:Obj):Rd (w.alloc o) v bs:=h.later ((Below.refl _ _).alloc (Nat.le_refl _) _)
theorem Rd.of_owns {w:World} {base:Nat} {v:Value} {bs:List Int} (hB:Byts bs) (h:w.ownsRow base 5 1 v bs.length (bs.map (Value.int .u8))):Rd w v bs:=by
 rcases h.2 with ⟨rfl,h0⟩ | ⟨g,cap,cur,rfl,hg,hh,hcap,hm,hs,ht⟩
 ·exact ⟨hB,none,0,by rw [h0],by omega,fun _=>rfl,fun hp=>by omega⟩
 ·refine ⟨hB,some ⟨g,0,none⟩,cap,rfl,hcap,fun e=>by simp at e,fun hp=>⟨g,0,rfl,(h.lt g rfl).2,fun k hk=>?_⟩⟩
  have:=h.cells (g:=g) rfl k (.int .u8 (bs.getD k 0)) (by simp [List.getD,hk])
  rwa [add_none] at this
theorem own_shape {w:World} {base:Nat} {e:TypeId} {size:Nat} {v:Value} {n:Nat} {xs:List Value} (h:w.ownsRow base e size v n xs):∃ a c,v = .slice a n c:=by
 rcases h.2 with ⟨rfl,h0⟩ | ⟨g,cap,cur,rfl,_⟩
 ·exact ⟨none,0,by rw [h0]⟩
 ·exact ⟨_,_,rfl⟩
theorem bytes_oneCell (ys:List Int):∀ u ∈ ys.map (Value.int .u8),u.oneCell' = true:=by
 intro u hu
 obtain ⟨y,_,rfl⟩:=List.mem_map.mp hu
 rfl
theorem Rd.src {w:World} {v:Value} {bs:List Int} (h:Rd w v bs):Src Tryz.prog 1 74 v bs.length (bs.map (Value.int .u8)) w:=by
 obtain ⟨hB,a,cap,rfl,hc,h0,hr⟩:=h
 cases a with
 |none=>
  have hl:bs = []:=by
   by_cases hp:0 < bs.length
   ·obtain ⟨b,off,e,_⟩:=hr hp
    simp at e
   ·exact List.length_eq_zero_iff.mp (by omega)
  subst hl
  exact Src.ofNil w Tryz.underlying74 cap
 |some ad=>
  refine Src.ofSlice w Tryz.underlying74 ad _ cap _ (by simp) (fun j u hj=>?_) (bytes_oneCell bs)
  have hjl:j < bs.length:=by
   have:=(List.getElem?_eq_some_iff.mp hj).1
   simpa using this
  obtain ⟨b,off,e,hlt,hcell⟩:=hr (by omega)
  simp at e
  subst e
  rw [add_none,hcell j hjl]
  simp [hjl] at hj
  simp [List.getD,hjl,hj]
theorem src_one (w:World) (x:Int):Src Tryz.prog 1 74 (.slice (some ⟨w.heap.size,0,none⟩) 1 1) 1 [.int .u8 x] (w.alloc (.cells #[.int .u8 x] 5)):=by
 refine Src.ofSlice _ Tryz.underlying74 _ 1 1 _ rfl (fun j u hj=>?_) (fun u hu=>by simp at hu;subst hu;rfl)
 match j,hj with
 |0,hj=>simp at hj;subst hj;simp [Addr.add]
def Wr (F:Nat → Prop) (w:World) (p:Nat) (bs:List Int) (sp:Bool):Prop:=
 (∀ k,F k → k < w.heap.size) ∧ F p ∧ Byts bs ∧ ∃ v,w.heap[p]? = some (.cells #[v,.bool sp] 187 (0,0)) ∧ (∀ k,v.ownBlock = some k → F k ∧ k ≠ p) ∧ w.ownsRow 0 5 1 v bs.length (bs.map (Value.int .u8))
theorem Wr.kept {F G:Nat → Prop} {w w':World} {p:Nat} {bs:List Int} {sp:Bool} (h:Wr F w p bs sp) (hk:Kept G w w') (hn:∀ k,F k → ¬ G k):Wr F w' p bs sp:=by
 obtain ⟨hF,hp,hB,v,hv,hb,ho⟩:=h
 refine ⟨fun k hk'=>Nat.lt_of_lt_of_le (hF k hk') hk.size,hp,hB,v,?_,hb,ho.1,?_⟩
 ·rw [hk.block p (hF p hp) (hn p hp)];exact hv
 ·rcases ho.2 with h1 | ⟨g,cap,cur,rfl,hbg,hg,rest⟩
  ·exact .inl h1
  ·have:=(hb g rfl).1
   exact .inr ⟨g,cap,cur,rfl,hbg,by rw [hk.block g (hF g this) (hn g this)];exact hg,rest⟩
theorem cell_of_block {w:World} {p i:Nat} {c:Array Value} {t:TypeId} {v:Value} (h:w.heap[p]? = some (.cells c t (0,0))) (hi:c[i]? = some v):w.cell? ⟨p,i,none⟩ = some v:=by
 rw [cell_of_row w p i c t (0,0) h];exact hi
theorem frozen_of_block {w:World} {p i:Nat} {c:Array Value} {t:TypeId} (h:w.heap[p]? = some (.cells c t (0,0))):w.frozen? ⟨p,i,none⟩ = false:=by
 simp [World.frozen?,h]
theorem heap_set {w:World} {p i:Nat} {c:Array Value} {t:TypeId} {v:Value} (h:w.heap[p]? = some (.cells c t (0,0))):(w.setCell ⟨p,i,none⟩ v).heap[p]? = some (.cells (c.set! i v) t (0,0)):=by
 simp [World.setCell,Array.getElem?_modify,h]
theorem Wr.put {F:Nat → Prop} {w w0 w1:World} {p:Nat} {bs xs:List Int} {sp:Bool} {v v':Value} (hF:∀ k,F k → k < w.heap.size) (hp:F p) (hB:Byts bs) (hX:Byts xs) (hv:w.heap[p]? = some (.cells #[v,.bool sp] 187 (0,0)))
  (hb:∀ k,v.ownBlock = some k → F k ∧ k ≠ p) (h0:Kept (fun _=>False) w w0) (hown:w1.ownsRow 0 5 1 v' (bs.length + xs.length) (bs.map (Value.int .u8) ++ xs.map (Value.int .u8))) (hg:w0.grownBy w1 v.ownBlock)
  (hat:v'.ownBlock = v.ownBlock ∨ v'.ownBlock = some w0.heap.size) :
  (w1.cell? ⟨p,0,none⟩ = some v ∧ w1.frozen? ⟨p,0,none⟩ = false) ∧ ∃ F',Wr F' (w1.setCell ⟨p,0,none⟩ v') p (bs ++ xs) sp ∧ (∀ k,F' k → F k ∨ w.heap.size ≤ k) ∧ Kept F w (w1.setCell ⟨p,0,none⟩ v'):=by
 have hpl:=hF p hp
 have hp0:some p ≠ v.ownBlock:=fun e=>(hb p e.symm).2 rfl
 have k1:Kept F w w1:=(h0.mono (fun _ h=>h.elim)).trans (Kept.grown hg (fun k hk=>(hb k hk).1)) (fun i hi=>.inl hi)
 have e1:w1.heap[p]? = some (.cells #[v,.bool sp] 187 (0,0)):=by
  rw [hg.block p (Nat.lt_of_lt_of_le hpl h0.size) hp0,h0.block p hpl (fun h=>h)];exact hv
 refine ⟨⟨cell_of_block e1 rfl,frozen_of_block e1⟩,fun k=>k < w1.heap.size ∧ (F k ∨ w.heap.size ≤ k),⟨?_,⟨Nat.lt_of_lt_of_le hpl k1.size,.inl hp⟩,hB.append hX,v',?_,?_,?_⟩,fun k hk=>hk.2,k1.trans (Kept.setCell _ hp _) (fun i hi=>.inl hi)⟩
 ·intro k hk
  simpa [World.setCell] using hk.1
 ·rw [heap_set e1];rfl
 ·intro k hk
  have hlt:=(hown.lt k hk).2
  rcases hat with hat | hat
  ·rw [hat] at hk
   exact ⟨⟨hlt,.inl (hb k hk).1⟩,(hb k hk).2⟩
  ·rw [hat] at hk
   have:w0.heap.size = k:=by simpa using hk
   have:=h0.size
   exact ⟨⟨hlt,.inr (by omega)⟩,by omega⟩
 ·have:(w1.setCell ⟨p,0,none⟩ v').ownsRow 0 5 1 v' (bs.length + xs.length) (bs.map (Value.int .u8) ++ xs.map (Value.int .u8)):=by
   refine hown.kept (row:=some p) ⟨rfl,rfl,rfl,by simp [World.setCell],fun k _ hk=>Below.heap_setCell _ _ _ _ (fun e=>hk (by rw [e]))⟩ (.inr ?_)
   intro e
   rcases hat with hat | hat
   ·exact hp0 (by rw [← hat,e])
   ·rw [hat] at e
    have:=h0.size
    simp at e
    omega
  simpa using this
theorem Wr.parts {F:Nat → Prop} {w:World} {p:Nat} {bs:List Int} {sp:Bool} (h:Wr F w p bs sp):∃ v,w.cell? ⟨p,0,none⟩ = some v ∧ w.cell? ⟨p,1,none⟩ = some (.bool sp) ∧ w.frozen? ⟨p,0,none⟩ = false ∧ w.frozen? ⟨p,1,none⟩ = false ∧ Rd w v bs:=by
 obtain ⟨hF,hp,hB,v,hv,hb,ho⟩:=h
 exact ⟨v,cell_of_block hv rfl,cell_of_block hv rfl,frozen_of_block hv,frozen_of_block hv,Rd.of_owns hB ho⟩
def Mid (F:Nat → Prop) (w w1:World) (p:Nat) (bs:List Int) (sp:Bool) (v:Value):Prop:=
 ∃ G:Nat → Prop,(∀ k,G k → k < w1.heap.size) ∧ G p ∧ Byts bs ∧ w1.heap[p]? = some (.cells #[v,.bool sp] 187 (0,0)) ∧ (∀ k,v.ownBlock = some k → G k ∧ k ≠ p) ∧ (∀ k,G k → F k ∨ w.heap.size ≤ k) ∧ Kept F w w1
theorem Wr.mid {F G:Nat → Prop} {w w1:World} {p:Nat} {bs:List Int} {sp:Bool} (h:Wr G w1 p bs sp) (hG:∀ k,G k → F k ∨ w.heap.size ≤ k) (hk:Kept F w w1) :
  ∃ v,w1.cell? ⟨p,0,none⟩ = some v ∧ w1.ownsRow 0 5 1 v bs.length (bs.map (Value.int .u8)) ∧ Mid F w w1 p bs sp v:=by
 obtain ⟨hGs,hGp,hB,v,hv,hb,ho⟩:=h
 exact ⟨v,cell_of_block hv rfl,ho,G,hGs,hGp,hB,hv,hb,hG,hk⟩
theorem Mid.put {F:Nat → Prop} {w w1 w0 w2:World} {p n:Nat} {bs xs ys:List Int} {sp:Bool} {v v':Value} (h:Mid F w w1 p bs sp v) (hX:Byts xs) (h0:Kept (fun _=>False) w1 w0) (hn:n = bs.length + xs.length) (hy:ys = bs ++ xs)
  (hown:w2.ownsRow 0 5 1 v' n (bs.map (Value.int .u8) ++ xs.map (Value.int .u8))) (hg:w0.grownBy w2 v.ownBlock) (hat:v'.ownBlock = v.ownBlock ∨ v'.ownBlock = some w0.heap.size) :
  (w2.cell? ⟨p,0,none⟩ = some v ∧ w2.frozen? ⟨p,0,none⟩ = false) ∧ (∃ a c,v' = .slice a n c) ∧ Hid (∃ F',Wr F' (w2.setCell ⟨p,0,none⟩ v') p ys sp ∧ (∀ k,F' k → F k ∨ w.heap.size ≤ k) ∧ Kept F w (w2.setCell ⟨p,0,none⟩ v')):=by
 obtain ⟨G,g1,g2,hB,hv,g3,g4,hk⟩:=h
 subst hn hy
 obtain ⟨hd,F',q1,q2,q3⟩:=Wr.put g1 g2 hB hX hv g3 h0 hown hg hat
 refine ⟨hd,own_shape hown,F',q1,fun k hk'=>?_,hk.trans q3 g4⟩
 rcases q2 k hk' with h1 | h1
 ·exact g4 k h1
 ·have:=hk.size
  exact .inr (by omega)
theorem Wr.below {F:Nat → Prop} {w w':World} {p:Nat} {bs:List Int} {sp:Bool} (h:Wr F w p bs sp) (hb:Below w.heap.size w w'):Wr F w' p bs sp:=
 h.kept (kept_of_below hb) (fun k hk hge=>by have:=h.1 k hk;omega)
theorem Rd.take {w:World} {a:Option Addr} {n cap:Nat} {bs:List Int} (h:Rd w (.slice a bs.length cap) bs) (hn:n ≤ bs.length):Rd w (.slice a n cap) (bs.take n):=by
 obtain ⟨hB,a',cap',e,hc,h0,hr⟩:=h
 simp at e
 obtain ⟨rfl,rfl⟩:=e
 have hl:(bs.take n).length = n:=by rw [List.length_take];omega
 refine ⟨hB.take n,a,cap,by rw [hl],by omega,h0,fun hp=>?_⟩
 obtain ⟨b,off,rfl,hlt,hcell⟩:=hr (by omega)
 refine ⟨b,off,rfl,hlt,fun k hk=>?_⟩
 rw [hcell k (by omega)]
 have:k < n:=by omega
 simp [List.getD,this]
theorem Rd.spot {w:World} {a:Option Addr} {n cap:Nat} {bs:List Int} (h:Rd w (.slice a n cap) bs) (hp:1 ≤ n):∃ b off,a = some ⟨b,off,none⟩ ∧ n ≤ cap ∧ n = bs.length:=by
 obtain ⟨hB,a',cap',e,hc,h0,hr⟩:=h
 simp at e
 obtain ⟨rfl,rfl,rfl⟩:=e
 obtain ⟨b,off,rfl,_,_⟩:=hr (by omega)
 exact ⟨b,off,rfl,hc,rfl⟩
end Go.Proofs.YtihdkgekickohaaGreatDoor
