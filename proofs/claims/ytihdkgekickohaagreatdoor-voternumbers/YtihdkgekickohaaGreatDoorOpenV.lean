import Derived.Test.YtihdkgekickohaaGreatDoorOpenEn
import Derived.Test.YtihdkgekickohaaGreatDoorVtMath
import Derived.Test.YtihdkgekickohaaGreatDoorVaX
namespace Go.Proofs.YtihdkgekickohaaGreatDoor
open Go.ChangeShapes Go.WideShapes Go.ChangeAt Go.RowKit Go.Joins
set_option maxRecDepth 100000
def RowIn {α:Type} (n:Nat) (f:α → List Value) (w:World) (v:Value) (xs:List α):Prop:=
 ∃ a cap,v = .slice a xs.length cap ∧ xs.length ≤ cap ∧ (xs.length:Int) ≤ 9223372036854775807 ∧ (0 < xs.length → ∃ b off,a = some ⟨b,off,none⟩ ∧ ∀ i x,xs[i]? = some x → ∀ r u,r < n → (f x)[r]? = some u → w.cell? ⟨b,off + i * n + r,none⟩ = some u)
theorem RowIn.below {α:Type} {n:Nat} {f:α → List Value} {w w':World} {v:Value} {xs:List α} (h:RowIn n f w v xs) (hb:Below w.heap.size w w'):RowIn n f w' v xs:=by
 obtain ⟨a,cap,rfl,hc,hl,hr⟩:=h
 refine ⟨a,cap,rfl,hc,hl,fun hp=>?_⟩
 obtain ⟨b,off,rfl,hx⟩:=hr hp
 exact ⟨b,off,rfl,fun i x hi r u hr hu=>kc (hx i x hi r u hr hu) hb⟩
theorem RowIn.shape {α:Type} {n:Nat} {f:α → List Value} {w:World} {v:Value} {xs:List α} (h:RowIn n f w v xs):∃ a cap,v = .slice a xs.length cap ∧ xs.length ≤ cap:=by
 obtain ⟨a,cap,rfl,hc,hl,hr⟩:=h
 exact ⟨a,cap,rfl,hc⟩
theorem RowIn.at {α:Type} {n:Nat} {f:α → List Value} {w w':World} {a:Option Addr} {l cap:Nat} {xs:List α} (h:RowIn n f w (.slice a l cap) xs) (hb:Below w.heap.size w w') (i:Nat) (hi:i < xs.length):∃ b off x,a = some ⟨b,off,none⟩ ∧ xs[i]? = some x ∧ ∀ r u,r < n → (f x)[r]? = some u → w'.cell? ⟨b,off + i * n + r,none⟩ = some u:=by
 obtain ⟨a',cap',e,_,_,hr⟩:=h.below hb
 simp at e
 obtain ⟨rfl,rfl,rfl⟩:=e
 obtain ⟨b,off,rfl,hc⟩:=hr (by omega)
 obtain ⟨x,hx⟩:∃ x,xs[i]? = some x:=⟨_,List.getElem?_eq_getElem hi⟩
 exact ⟨b,off,x,rfl,hx,hc i x hx⟩
theorem cellsBallot:Tryz.prog.cellsOf 39 = 2:=by kernel_rfl
theorem cellsEntries:Tryz.prog.cellsOf 40 = 1:=by kernel_rfl
theorem cellsU64:Tryz.prog.cellsOf 37 = 1:=by kernel_rfl
theorem cellsOp:Tryz.prog.cellsOf 42 = 6:=by kernel_rfl
theorem bytesOp:Tryz.prog.bytesOf 42 = 64:=by kernel_rfl
theorem list2 {α:Type} {l:List α} (h:l.length = 2):∃ y0 y1,l = [y0,y1]:=by
 match l,h with
 |[y0,y1],_=>exact ⟨_,_,rfl⟩
theorem list5 {α:Type} {l:List α} (h:l.length = 5):∃ y0 y1 y2 y3 y4,l = [y0,y1,y2,y3,y4]:=by
 match l,h with
 |[y0,y1,y2,y3,y4],_=>exact ⟨_,_,_,_,_,rfl⟩
theorem trod_ballot {H:Type} {enc:TypeId × Value → H} {w:World} {base:Nat} {sp:Nat → Bool} {held:Bool} {fuel:Nat} {c0 c1:Value} {x:DataW H × List MemPlace} (h:DataW.trod enc Tryz.prog w base sp held fuel 39 [c0,c1] = some x) :
  ∃ k q:Int,c0 = .int .i64 k ∧ c1 = .int .i64 q:=by
 obtain ⟨xs,n,_,hx,_,hlen,hfs⟩:=DataW.trod_struct Tryz.underlying39 h
 obtain ⟨y0,y1,rfl⟩:=list2 hlen
 have h0:=hfs 0 _ rfl
 have h1:=hfs 1 _ rfl
 simp [cellsInt] at h0 h1
 obtain ⟨k,e0,_⟩:=DataW.trod_int Tryz.underlying3 h0
 obtain ⟨q,e1,_⟩:=DataW.trod_int Tryz.underlying3 h1
 simp at e0 e1
 exact ⟨k,q,e0,e1⟩
def Lsm (ps:List Ep):Prop:=ps.length * 96 ≤ 140737488355328 ∧ ∀ t ∈ ps,small t
theorem open_entries_c {H:Type} {enc:TypeId × Value → H} {W:World} {fuel:Nat} {c:Value} {x:DataW H × List MemPlace} (hf:DataW.trod enc Tryz.prog W 0 (fun _=>true) true fuel 40 [c] = some x) :
  ∃ (a:Option Addr) (ps:List Ep) (cap:Nat),c = .slice a ps.length cap ∧ ps.length ≤ cap ∧ Ens W (.slice a ps.length cap) ps ∧ ((∀ n ∈ x.1.weights Tryz.prog 40,n ≤ reachBytes) → Lsm ps):=by
 rcases Go.Deep.open_slice Tryz.underlying40 hf with ⟨hcs,hx⟩ | ⟨x0,l,cp,m,n,D,Pl,hcs,_,hl,hm,hme,hx,hall⟩
 ·simp at hcs
  subst hcs
  exact ⟨none,[],0,rfl,by simp,⟨none,0,rfl,by simp,fun hp=>by simp at hp,fun t ht=>by simp at ht⟩,fun _=>⟨by simp,fun t ht=>by simp at ht⟩⟩
 ·simp at hcs
  subst hcs
  have hlm:l ≤ m:=by rw [hme];simp;omega
  have each:∀ i,i < l → ∃ y:Ep,∃ b o,x0.add (i * 10) = ⟨b,o,none⟩ ∧ EnAt W b o y ∧ EnW W y ∧ ((∀ n ∈ (D i).weights Tryz.prog 69,n ≤ reachBytes) → small y):=by
   intro i hi
   obtain ⟨cs,hc,htr⟩:=hall i (by omega)
   rw [cellsEntry] at hc
   obtain ⟨_,hlen,hcell⟩:=World.cells?_some hc
   obtain ⟨t,rfl,hw,hsm⟩:=trod_entry htr
   generalize x0.add (i * 10) = z at hcell ⊢
   obtain ⟨b,o,spot⟩:=z
   have h0:=hcell 0 (by simp)
   have hspot:spot = none:=by simpa [Addr.add] using World.cell?_spot h0
   subst hspot
   refine ⟨t,b,o,rfl,EnAt.of fun r u hr hu=>?_,hw,hsm⟩
   have:=hcell r hr
   rw [add_none] at this
   rw [this]
   exact hu
  haveI:Inhabited Ep:=⟨(⟨0,0,0,0,0,0,0,0,[],0⟩,none,0)⟩
  obtain ⟨f,hf'⟩:=Go.Deep.choose_lt each
  have hlen:((List.range l).map f).length = l:=by simp
  refine ⟨some x0,(List.range l).map f,cp,by rw [hlen],by rw [hlen];exact hl,⟨some x0,cp,rfl,by rw [hlen];unfold maxLen at hm;omega,fun hp=>?_,fun t ht=>?_⟩,fun hw=>⟨?_,fun t ht=>?_⟩⟩
  ·rw [hlen] at hp
   obtain ⟨b,o,he,hat,_⟩:=hf' 0 hp
   obtain ⟨xb,xo,xs⟩:=x0
   simp [Addr.add] at he
   obtain ⟨rfl,rfl,rfl⟩:=he
   refine ⟨xb,xo,rfl,fun k y hk=>?_⟩
   have hkl:k < l:=by
    have:=(List.getElem?_eq_some_iff.mp hk).1
    simpa using this
   obtain ⟨b,o,he,hat',_⟩:=hf' k hkl
   rw [add_none] at he
   simp at he
   obtain ⟨rfl,rfl⟩:=he
   have:y = f k:=by simpa [hkl] using hk.symm
   rw [this]
   exact hat'
  ·obtain ⟨k,hk,rfl⟩:=List.mem_map.mp ht
   obtain ⟨b,o,_,_,hi,_⟩:=hf' k (by simpa using hk)
   exact hi
  ·rw [hx] at hw
   have h1:=hw _ (show (((List.range l).map D).length + ((List.range (m - l)).map fun j=>D (l + j)).length) * 96 ∈ _ by simp [DataW.weights,Tryz.underlying40,bytesEntry])
   simp only [List.length_map,List.length_range,reachBytes] at h1
   rw [hlen]
   omega
  ·obtain ⟨k,hk,rfl⟩:=List.mem_map.mp ht
   obtain ⟨b,o,_,_,_,hi⟩:=hf' k (by simpa using hk)
   refine hi fun n hn=>hw n ?_
   rw [hx]
   simp only [DataW.weights,Tryz.underlying40]
   exact List.mem_cons_of_mem _ (List.mem_append_left _ (weights_all (d:=D k) (List.mem_map.mpr ⟨k,hk,rfl⟩) n hn))
theorem array2 {cs:Array Value} (h:cs.size = 2):∃ c0 c1,cs = #[c0,c1]:=by
 obtain ⟨l⟩:=cs
 obtain ⟨c0,c1,rfl⟩:=list2 (l:=l) (by simpa using h)
 exact ⟨_,_,rfl⟩
theorem open_ballot {H:Type} {enc:TypeId × Value → H} {w:World} {base:Nat} {sp:Nat → Bool} {held:Bool} {r:Reach} {b0:Nat} {v:Value} {d:DataW H} {ps:List MemPlace} (hval:Value.okWide Tryz.prog w r b0 39 v) (hd:DataW.Trod enc Tryz.prog w base sp held 39 v d ps) :
  ∃ b:Bl,v = vB b:=by
 obtain ⟨cs,rfl,hsz⟩:=okWide_struct Tryz.underlying39 hval
 rw [cellsBallot] at hsz
 obtain ⟨c0,c1,rfl⟩:=array2 hsz
 obtain ⟨fuel,hf⟩:=hd
 obtain ⟨k,q,rfl,rfl⟩:=trod_ballot (by simpa [Value.cells] using hf)
 exact ⟨(k,q),rfl⟩
structure O18 where
 kd:Int
 tn:Int
 kp:Int
 b:Bl
 la:Option Addr
 lc:Nat
 ps:List Ep
def c6 (y:O18):List Value:=[.int .i64 y.kd,.int .i64 y.tn,.int .u64 y.kp,.int .i64 y.b.1,.int .i64 y.b.2,.slice y.la y.ps.length y.lc]
structure O18.In (w:World) (y:O18):Prop where
 en:Ens w (.slice y.la y.ps.length y.lc) y.ps
 lc:y.ps.length ≤ y.lc
 sm:Lsm y.ps
 kb:0 ≤ y.kp ∧ y.kp ≤ 18446744073709551615
theorem O18.In.below {w w':World} {y:O18} (h:y.In w) (hb:Below w.heap.size w w'):y.In w':=⟨h.en.below hb,h.lc,h.sm,h.kb⟩
theorem trod_op {H:Type} {enc:TypeId × Value → H} {W:World} {fuel:Nat} {cs:List Value} {x:DataW H × List MemPlace} (h:DataW.trod enc Tryz.prog W 0 (fun _=>true) true fuel 42 cs = some x) :
  ∃ y:O18,cs = c6 y ∧ Ens W (.slice y.la y.ps.length y.lc) y.ps ∧ y.ps.length ≤ y.lc ∧ (0 ≤ y.kp ∧ y.kp ≤ 18446744073709551615) ∧ ((∀ n ∈ x.1.weights Tryz.prog 42,n ≤ reachBytes) → Lsm y.ps):=by
 obtain ⟨xs,n,_,hx,hc,hlen,hfs⟩:=DataW.trod_struct Tryz.underlying42 h
 rw [cellsOp] at hc
 obtain ⟨c0,c1,c2,c3,c4,c5,rfl⟩:=list6 hc
 obtain ⟨y0,y1,y2,y3,y4,rfl⟩:=list5 hlen
 have h0:=hfs 0 _ rfl
 have h1:=hfs 1 _ rfl
 have h2:=hfs 2 _ rfl
 have h3:=hfs 3 _ rfl
 have h4:=hfs 4 _ rfl
 simp [cellsInt,cellsU64,cellsBallot,cellsEntries] at h0 h1 h2 h3 h4
 obtain ⟨x0,e0,_⟩:=DataW.trod_int Tryz.underlying3 h0
 obtain ⟨x1,e1,_⟩:=DataW.trod_int Tryz.underlying3 h1
 obtain ⟨x2,e2,_,w2⟩:=DataW.trod_int Tryz.underlying37 h2
 obtain ⟨k,q,rfl,rfl⟩:=trod_ballot h3
 obtain ⟨a,ps,cap,rfl,hcap,hE,hS⟩:=open_entries_c h4
 simp at e0 e1 e2
 subst e0 e1 e2
 refine ⟨⟨x0,x1,x2,(k,q),a,cap,ps⟩,rfl,hE,hcap,bounds_u64 w2,fun hw=>hS fun n hn=>?_⟩
 rw [hx] at hw
 refine hw n ?_
 show n ∈ DataW.weights Tryz.prog 42 (.agg [y0.1,y1.1,y2.1,y3.1,y4.1])
 simp only [DataW.weights,Tryz.underlying42]
 exact DataW.weights_mem_each (j:=4) rfl rfl n hn
structure Scr (W:World) (v:Value) (os:List O18):Prop where
 row:RowIn 6 c6 W v os
 ins:∀ o ∈ os,o.In W
 sz:os.length * 64 ≤ 140737488355328
theorem open_script {H:Type} {enc:TypeId × Value → H} {W:World} {base:Nat} {v:Value} {d:DataW H} {p:List MemPlace} {ts:List TypeId} {ds:List (DataW H)} {j:Nat} (hv:Value.okWide Tryz.prog W .any base 22 v) (h:DataW.Trod enc Tryz.prog W 0 (fun _=>true) true 22 v d p)
  (hs:(DataW.weightsEach Tryz.prog ts ds).all (· ≤ reachBytes) = true) (ht:ts[j]? = some 22) (hd:ds[j]? = some d):∃ os:List O18,Scr W v os:=by
 obtain ⟨a,len,cap,rfl⟩:=okWide_slice Tryz.underlying22 hv
 obtain ⟨fuel,hf⟩:=h
 rcases Go.Deep.open_slice Tryz.underlying22 (by simpa [Value.cells] using hf) with ⟨hcs,hx⟩ | ⟨x,l,c,m,n,D,Pl,hcs,_,hl,hm,hme,hx,hall⟩
 ·simp at hcs
  obtain ⟨rfl,rfl,rfl⟩:=hcs
  exact ⟨[],⟨none,0,rfl,Nat.le_refl _,by simp,fun hp=>by simp at hp⟩,fun o ho=>by simp at ho,by simp⟩
 ·simp at hcs
  obtain ⟨rfl,rfl,rfl⟩:=hcs
  have hlm:len ≤ m:=by rw [hme];simp;omega
  have hdx:d = .slice ((List.range len).map D) ((List.range (m - len)).map fun j=>D (len + j)):=congrArg Prod.fst hx
  have hb:=sized_slice hs ht (hdx ▸ hd) Tryz.underlying22
  rw [bytesOp] at hb
  simp only [reachBytes,List.length_map,List.length_range] at hb
  have each:∀ i,i < len → ∃ y:O18,∃ b o,x.add (i * 6) = ⟨b,o,none⟩ ∧ (∀ r u,r < 6 → (c6 y)[r]? = some u → W.cell? ⟨b,o + r,none⟩ = some u) ∧ y.In W:=by
   intro i hi
   obtain ⟨cs,hc,htr⟩:=hall i (by omega)
   rw [cellsOp] at hc
   obtain ⟨_,hlen,hcell⟩:=World.cells?_some hc
   obtain ⟨y,rfl,hen,hlc,hkb,hsm⟩:=trod_op htr
   generalize x.add (i * 6) = z at hcell ⊢
   obtain ⟨b,o,spot⟩:=z
   have h0:=hcell 0 (by simp)
   have hspot:spot = none:=by simpa [Addr.add] using World.cell?_spot h0
   subst hspot
   refine ⟨y,b,o,rfl,fun r u hr hu=>?_,hen,hlc,hsm fun k hk=>all_le hs k (DataW.weights_mem_each ht (hdx ▸ hd) k ?_),hkb⟩
   ·have:=hcell r hr
    rw [add_none] at this
    rw [this]
    exact hu
   ·simp only [DataW.weights,Tryz.underlying22]
    refine List.mem_cons_of_mem _ (List.mem_append_left _ (weights_all (d:=D i) ?_ k hk))
    exact List.mem_map.mpr ⟨i,List.mem_range.mpr hi,rfl⟩
  haveI:Inhabited O18:=⟨⟨0,0,0,(0,0),none,0,[]⟩⟩
  obtain ⟨f,hf'⟩:=Go.Deep.choose_lt each
  have hlen:((List.range len).map f).length = len:=by simp
  refine ⟨(List.range len).map f,⟨some x,cap,by rw [hlen],by rw [hlen];exact hl,by rw [hlen];unfold maxLen at hm;omega,fun hp=>?_⟩,fun t ht=>?_,by rw [hlen];omega⟩
  ·rw [hlen] at hp
   obtain ⟨b,o,he,hat,_⟩:=hf' 0 hp
   obtain ⟨xb,xo,xs⟩:=x
   simp [Addr.add] at he
   obtain ⟨rfl,rfl,rfl⟩:=he
   refine ⟨xb,xo,rfl,fun k y hk r u hr hu=>?_⟩
   have hkl:k < len:=by
    have:=(List.getElem?_eq_some_iff.mp hk).1
    simpa using this
   obtain ⟨b,o,he,hat',_⟩:=hf' k hkl
   rw [add_none] at he
   simp at he
   obtain ⟨rfl,rfl⟩:=he
   have:y = f k:=by simpa [hkl] using hk.symm
   rw [this] at hu
   exact hat' r u hr hu
  ·obtain ⟨k,hk,rfl⟩:=List.mem_map.mp ht
   obtain ⟨b,o,_,_,hi⟩:=hf' k (by simpa using hk)
   exact hi
end Go.Proofs.YtihdkgekickohaaGreatDoor
