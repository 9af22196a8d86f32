import Derived.Test.YtihdkgekickohaaGreatDoorBaseN
import Derived.Test.YtihdkgekickohaaGreatDoorBaseM
import Derived.Test.YtihdkgekickohaaGreatDoorBaseB
namespace Go.Proofs.YtihdkgekickohaaGreatDoor
open Go.ChangeShapes Go.WideShapes Go.ChangeAt Go.RowKit
set_option maxRecDepth 100000
structure Rc where
 gen:Nat
 epoch:Nat
 index:Nat
 data:List Int
def wpay (r:Rc):List Int:=enc r.gen ++ (enc r.epoch ++ (enc r.index ++ (enc r.data.length ++ r.data)))
def frm (r:Rc):List Int:=frame (wpay r)
structure Rc.ok (r:Rc):Prop where
 g:r.gen ≤ 1099511627776
 e:r.epoch ≤ 1099511627776
 i:r.index ≤ 1099511627776
 d:r.data.length ≤ 32768
 b:Byts r.data
theorem wpay_inj {r s:Rc} (h:wpay r = wpay s):r = s:=by
 obtain ⟨h1,h⟩:=enc_free _ _ _ _ h
 obtain ⟨h2,h⟩:=enc_free _ _ _ _ h
 obtain ⟨h3,h⟩:=enc_free _ _ _ _ h
 obtain ⟨_,h4⟩:=enc_free _ _ _ _ h
 cases r;cases s
 simp_all
theorem wpay_byts {r:Rc} (h:Byts r.data):Byts (wpay r):=(enc_byts _).append ((enc_byts _).append ((enc_byts _).append ((enc_byts _).append h)))
theorem enc_len6 {n:Nat} (h:n ≤ 1099511627776):(enc n).length ≤ 6:=enc_len_le 5 n (by have:(128:Nat) ^ (5 + 1) = 4398046511104:=(by decide);omega)
theorem enc_len3 {n:Nat} (h:n ≤ 32768):(enc n).length ≤ 3:=enc_len_le 2 n (by have:(128:Nat) ^ (2 + 1) = 2097152:=(by decide);omega)
theorem wpay_len {r:Rc} (h:r.ok) (hd:r.data.length ≤ 32000):(wpay r).length ≤ 32021:=by
 have h1:=enc_len6 h.g
 have h2:=enc_len6 h.e
 have h3:=enc_len6 h.i
 have h4:=enc_len3 h.d
 simp only [wpay,List.length_append]
 omega
noncomputable def recOf (p:List Int):Option Rc:=by
 classical
 exact if h:∃ r:Rc,p = wpay r ∧ r.ok then some h.choose else none
theorem recOf_some {p:List Int} {r:Rc} (h:p = wpay r) (hr:r.ok):recOf p = some r:=by
 classical
 unfold recOf
 have hx:∃ r:Rc,p = wpay r ∧ r.ok:=⟨r,h,hr⟩
 rw [dif_pos hx]
 exact congrArg some (wpay_inj (hx.choose_spec.1.symm.trans h))
theorem recOf_none {p:List Int} (h:∀ r:Rc,r.ok → p ≠ wpay r):recOf p = none:=by
 classical
 unfold recOf
 rw [dif_neg]
 rintro ⟨r,e,hr⟩
 exact h r hr e
theorem recOf_is {p:List Int} {r:Rc} (h:recOf p = some r):p = wpay r ∧ r.ok:=by
 classical
 unfold recOf at h
 split at h
 ·rename_i hx
  simp at h
  rw [← h]
  exact hx.choose_spec
 ·simp at h
def npc (m:Nat):Nat:=(m + 62) / 63
def piece63 (fr:List Int) (j:Nat):List Int:=(fr.drop (63 * j)).take 63
def sect (mark:Int) (fr:List Int) (j:Nat):List Int:=mark :: (piece63 fr j ++ List.replicate (63 - (piece63 fr j).length) 0)
def markOf (j:Nat):Int:=if j = 0 then 1 else 0
theorem sect_len (mark:Int) (fr:List Int) (j:Nat):(sect mark fr j).length = 64:=by
 have:(piece63 fr j).length ≤ 63:=by unfold piece63;rw [List.length_take];omega
 simp only [sect,List.length_cons,List.length_append,List.length_replicate]
 omega
theorem piece_byts {fr:List Int} (h:Byts fr) (j:Nat):Byts (piece63 fr j):=(h.drop _).take _
theorem sect_sec {mark:Int} {fr:List Int} (hm:0 ≤ mark ∧ mark ≤ 255) (h:Byts fr) (j:Nat):Sec (sect mark fr j):=by
 refine ⟨sect_len mark fr j,fun b hb=>?_⟩
 simp only [sect,List.mem_cons,List.mem_append] at hb
 rcases hb with rfl | hb | hb
 ·exact hm
 ·exact piece_byts h j b hb
 ·have:=List.eq_of_mem_replicate hb;omega
def writesOf (fr:List Int) (p:Int) (k:Nat):List (Int × List Int):=(List.range k).map (fun j:Nat=>(p + (j:Int),sect (markOf j) fr j))
theorem writesOf_succ (fr:List Int) (p:Int) (k:Nat):writesOf fr p (k + 1) = writesOf fr p k ++ [(p + (k:Int),sect (markOf k) fr k)]:=by simp [writesOf,List.range_succ]
theorem writesOf_len (fr:List Int) (p:Int) (k:Nat):(writesOf fr p k).length = k:=by simp [writesOf]
def cont (g:Int → List Int):Int → Nat → List Int
 |_,0=>[]
 |p,n + 1=>if (g p).getD 0 0 = 0 then (g p).drop 1 ++ cont g (p + 1) n else []
def rests (g:Int → List Int) (p:Int):Nat → List Int
 |0=>[]
 |n + 1=>if (g p).getD 0 0 = 1 then (g p).drop 1 ++ cont g (p + 1) n else []
noncomputable def stand (g:Int → List Int) (p:Int) (n:Nat):Option (Rc × Nat):=
 if kind (rests g p n) = 1 then (recOf (pay (rests g p n))).map (fun r=>(r,npc (word (rests g p n) + 8))) else none
def goesOn (rs:List Rc) (r:Rc):Bool:=match rs.getLast? with
 |none=>decide (r.index = 0 ∧ 1 ≤ r.gen)
 |some l=>decide (r.gen = l.gen ∧ r.index = l.index + 1 ∧ l.epoch ≤ r.epoch)
noncomputable def areaGo (g:Int → List Int):Nat → List Rc → Int → Nat → List Rc × Int
 |0,rs,p,_=>(rs,p)
 |k + 1,rs,p,n=>match stand g p n with
  |none=>(rs,p)
  |some (r,m)=>if goesOn rs r = true then areaGo g k (rs ++ [r]) (p + (m:Int)) (n - m) else (rs,p)
theorem cont_pieces (g:Int → List Int) (fr:List Int) (p:Int) (k:Nat):∀ (d j n:Nat),j + d = k → 1 ≤ j → d ≤ n → (∀ i,j ≤ i → i < k → g (p + (i:Int)) = sect 0 fr i) →
  cont g (p + (j:Int)) n = ((List.range' j d).flatMap (fun i=>(sect 0 fr i).drop 1)) ++ cont g (p + (k:Int)) (n - d):=by
 intro d
 induction d with
 |zero=>intro j n h _ _ _;simp [← h]
 |succ d ih=>
  intro j n h hj hn hg
  obtain ⟨n,rfl⟩:∃ m,n = m + 1:=⟨n - 1,by omega⟩
  have h0:=hg j (by omega) (by omega)
  have hz:(sect 0 fr j).getD 0 0 = 0:=rfl
  rw [cont,h0,if_pos hz,List.range'_succ,List.flatMap_cons]
  have:=ih (j + 1) n (by omega) (by omega) (by omega) (fun i hi hik=>hg i (by omega) hik)
  rw [show p + ((j + 1:Nat):Int) = p + (j:Int) + 1 by omega] at this
  rw [this,show n + 1 - (d + 1) = n - d by omega]
  simp
theorem sect_tail (mark:Int) (fr:List Int) (j:Nat):(sect mark fr j).drop 1 = piece63 fr j ++ List.replicate (63 - (piece63 fr j).length) 0:=rfl
theorem pieces_join (fr:List Int):∀ (d j:Nat),63 * (j + d) < fr.length + 63 → fr.length ≤ 63 * (j + d) → ∃ z,((List.range' j d).flatMap (fun i=>(sect 0 fr i).drop 1)) = fr.drop (63 * j) ++ List.replicate z 0:=by
 intro d
 induction d with
 |zero=>
  intro j h1 h2
  exact ⟨0,by simp [List.drop_eq_nil_of_le (show fr.length ≤ 63 * j by omega)]⟩
 |succ d ih=>
  intro j h1 h2
  rw [List.range'_succ,List.flatMap_cons,sect_tail]
  obtain ⟨z,hz⟩:=ih (j + 1) (by omega) (by omega)
  rw [hz]
  by_cases hd:d = 0
  ·subst hd
   have hl:(fr.drop (63 * j)).length ≤ 63:=by rw [List.length_drop];omega
   have hp:piece63 fr j = fr.drop (63 * j):=by unfold piece63;rw [List.take_of_length_le hl]
   have hn:fr.drop (63 * (j + 1)) = []:=List.drop_eq_nil_of_le (by omega)
   rw [hp,hn]
   exact ⟨63 - (fr.drop (63 * j)).length + z,by simp [List.append_assoc]⟩
  ·have hl:63 ≤ (fr.drop (63 * j)).length:=by rw [List.length_drop];omega
   have hp:(piece63 fr j).length = 63:=by unfold piece63;rw [List.length_take];omega
   rw [hp]
   refine ⟨z,?_⟩
   have:fr.drop (63 * j) = piece63 fr j ++ fr.drop (63 * (j + 1)):=by
    unfold piece63
    rw [show 63 * (j + 1) = 63 * j + 63 by omega,← List.drop_drop,List.take_append_drop]
   rw [this]
   simp
theorem rests_written (g:Int → List Int) (fr:List Int) (p:Int) (n k:Nat) (hk:k = npc fr.length) (h1:1 ≤ fr.length) (hkn:k ≤ n) (hg:∀ i,i < k → g (p + (i:Int)) = sect (markOf i) fr i):∃ junk,rests g p n = fr ++ junk:=by
 have hk1:1 ≤ k:=by rw [hk];unfold npc;omega
 obtain ⟨n,rfl⟩:∃ m,n = m + 1:=⟨n - 1,by omega⟩
 have h0:g p = sect 1 fr 0:=by have:=hg 0 (by omega);simpa [markOf] using this
 have ho:(sect 1 fr 0).getD 0 0 = 1:=rfl
 have hc:=cont_pieces g fr p k (k - 1) 1 n (by omega) (Nat.le_refl _) (by omega) (fun i hi hik=>by rw [hg i hik];simp [markOf,show i ≠ 0 by omega])
 obtain ⟨z,hz⟩:=pieces_join fr k 0 (by rw [hk];unfold npc;omega) (by rw [hk];unfold npc;omega)
 have hr:List.range' 0 k = 0 :: List.range' 1 (k - 1):=by
  conv=>lhs;rw [show k = (k - 1) + 1 by omega]
  rw [List.range'_succ]
 rw [hr,List.flatMap_cons] at hz
 rw [rests,h0,if_pos ho]
 rw [show p + ((1:Nat):Int) = p + 1 by rfl] at hc
 rw [hc]
 refine ⟨List.replicate z 0 ++ cont g (p + (k:Int)) (n - (k - 1)),?_⟩
 have e:(sect 1 fr 0).drop 1 = (sect 0 fr 0).drop 1:=rfl
 rw [e,← List.append_assoc,hz]
 simp
theorem frame_read (p junk:List Int) (hp:p.length ≤ 32768) (hB:Byts p):kind (frame p ++ junk) = 1 ∧ pay (frame p ++ junk) = p ∧ word (frame p ++ junk) = p.length:=by
 have hw:word (frame p ++ junk) = p.length:=by
  unfold frame
  rw [List.append_assoc,List.append_assoc]
  exact word_four p.length (by omega) _
 have hl:(frame p ++ junk).length = p.length + 8 + junk.length:=by rw [List.length_append,frame_len]
 have ht:(frame p ++ junk).take (4 + p.length) = four p.length ++ p:=by
  unfold frame
  rw [List.append_assoc,List.take_left' (by rw [List.length_append,four_len])]
 have hd:(frame p ++ junk).drop (4 + p.length) = four (csum (four p.length ++ p)) ++ junk:=by
  unfold frame
  rw [List.append_assoc,List.drop_left' (by rw [List.length_append,four_len])]
 refine ⟨?_,?_,hw⟩
 ·unfold kind
  rw [hw,ht,hd,word_four _ (csum_lt ((four_byts _).append hB)),if_neg (by omega),if_neg (by omega),if_neg (by omega),if_pos rfl]
 ·unfold pay
  rw [hw]
  unfold frame
  rw [List.append_assoc,List.append_assoc,List.drop_left' (four_len _),List.take_left' rfl]
theorem stand_written (g:Int → List Int) (r:Rc) (p:Int) (n:Nat) (hr:r.ok) (hd:r.data.length ≤ 32000) (hkn:npc (frm r).length ≤ n) (hg:∀ i,i < npc (frm r).length → g (p + (i:Int)) = sect (markOf i) (frm r) i):stand g p n = some (r,npc (frm r).length):=by
 have hl:(wpay r).length ≤ 32021:=wpay_len hr hd
 have hf:(frm r).length = (wpay r).length + 8:=frame_len _
 obtain ⟨junk,hj⟩:=rests_written g (frm r) p n _ rfl (by omega) hkn hg
 obtain ⟨h1,h2,h3⟩:=frame_read (wpay r) junk (by omega) (wpay_byts hr.b)
 unfold stand
 rw [hj]
 unfold frm at *
 rw [if_pos h1,h2,h3,recOf_some rfl hr,frame_len]
 rfl
end Go.Proofs.YtihdkgekickohaaGreatDoor
